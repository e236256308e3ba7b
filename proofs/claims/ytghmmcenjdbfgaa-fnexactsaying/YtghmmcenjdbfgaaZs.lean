/- impl.BridgeOf, walked. impl.Saying, walked. spec.BridgeNew, walked. spec.BridgeOf, walked. spec.Saying, walked. How an In comes in; copied. Lists of In: how they come in, how long, copied. Lists of In: compared. Lists of In: marked. Lists of what is said: compared. Lists of what is said: marked. -/
import Derived.Test.YtghmmcenjdbfgaaRows
import Derived.WalkKit
import Derived.ProofKit
import Derived.OpenShut
import Derived.ShutString
import Derived.ChangeOld
import Derived.Below
import Derived.Deep.QuietTactic
import Derived.BigQuiet
import Derived.WalkSmall
import Derived.Laws.OwnMore
import Derived.WalkSpells
import Derived.WalkLawsBesides
import Derived.Deep.Cut
import Derived.Test.YtghmmcenjdbfgaaBo0
import Derived.Test.YtghmmcenjdbfgaaRe3
import Derived.Test.YtghmmcenjdbfgaaTakes
import Derived.Maps.AppendAt
import Derived.Test.YtghmmcenjdbfgaaBr9
import Derived.Test.YtghmmcenjdbfgaaRe5
import Derived.Lib.SmallJoins
import Derived.Test.YtghmmcenjdbfgaaIn1
import Derived.Deep.Slices
import Derived.Test.YtghmmcenjdbfgaaIs1
import Derived.Test.YtghmmcenjdbfgaaRe1
namespace Go.Proofs.Ytghmmcenjdbfgaa
open Go.ChangeShapes Go.WideShapes Go.ChangeAt Go.RowKit
open Go.ChangeMaps (open_string shut_string)
set_option linter.unusedVariables false
set_option maxRecDepth 100000

set_option maxHeartbeats 4000000 in
theorem bofI (id n : Int) (ad : Option Addr) (cap : Nat) (X : List Ik) (w : World) (hv : FView ikEnc w ad X) (hl : X.length ≤ 1048576) :
    Calls Try.prog 17 #[.int .i64 id, .int .i64 n, .slice ad X.length cap] w fun e w' => ∃ a c, e = .returned (.agg #[.int .i64 (newI id n), .slice a (ofR id n X).length c]) ∧ FOwn ptEnc 11 43 w.heap.size w' (.slice a (ofR id n X).length c) (ofR id n X) ∧ Below w.heap.size w w' := by
  have hB := hv.lt ikEnc_len (by omega)
  obtain ⟨y, hy⟩ : ∃ y, y = w.alloc (Obj.cells #[.int .i64 0, .slice none 0 0] 26) := ⟨_, rfl⟩
  have B0 : Below w.heap.size w y := by rw [hy]; exact below_new _
  have A0 : BBox y w.heap.size 0 (.slice none 0 0) := by rw [hy]; exact BBox.new w _ _ _
  have S0 := A0.lt
  have hR : ofR id n X = ofL (newI id n) (newL id n) X := rfl
  have hNl := newL_small id n
  have hno := fun h => ofR_not (id := id) (n := n) X h
  obtain ⟨I, hI⟩ : ∃ v, newI id n = v := ⟨_, rfl⟩
  obtain ⟨N, hN⟩ : ∃ v, newL id n = v := ⟨_, rfl⟩
  obtain ⟨ok, hok⟩ : ∃ v, nOk id n = v := ⟨_, rfl⟩
  obtain ⟨D, hD⟩ : ∃ v, ofR id n X = v := ⟨_, rfl⟩
  rw [hI, hN, hD] at hR
  rw [hI, hD, hok] at hno
  rw [hN] at hNl
  rw [hI, hD]
  replace hR : Hid _ := hR
  replace hno : Hid _ := hno
  replace hI : Hid _ := hI
  replace hN : Hid _ := hN
  replace hok : Hid _ := hok
  clear hD
  go_enter Try.func17, Try.ntmps17
  go_wp2_with fail
  go_at_call 70
  rw [← hy]
  clear hy
  refine (newBI id n y).mono ?_
  rintro e u1 ⟨a1, c1, rfl, O1, k1⟩
  rw [hN.out] at O1
  rw [hI.out, hN.out, hok.out]
  clear hI hN hok
  have B1 := B0.trans (k1.mono B0.size)
  have A0 := A0.below k1 A0.lt
  have s1 := k1.size
  have lo1 := O1.lt
  clear k1 B0
  obtain ⟨u2, hu2⟩ : ∃ u2, u2 = u1.alloc (Obj.cells #[.int .i64 I, .slice a1 N.length c1] 26) := ⟨_, rfl⟩
  have k2 : Below u1.heap.size u1 u2 := by rw [hu2]; exact below_new _
  have P2 : BBox u2 u1.heap.size I (.slice a1 N.length c1) := by rw [hu2]; exact BBox.new u1 _ _ _
  have B2 := B1.trans (k2.mono B1.size)
  have A0 := A0.below k2 A0.lt
  have O1 := O1.later k2
  have s2 := P2.lt
  go_upto_region 2 with fail
  rw [← hu2]
  clear hu2 k2 B1
  obtain ⟨p, hp⟩ : ∃ p, p = u1.heap.size := ⟨_, rfl⟩
  rw [← hp] at P2 s1 s2 lo1 ⊢
  clear hp
  have lp : w.heap.size < p := by omega
  cases ok
  · obtain ⟨hD0, hI0⟩ := hno.out rfl
    subst hD0
    subst hI0
    have O9 : FOwn ptEnc 11 43 w.heap.size ((u2.setCell ⟨w.heap.size, 0, none⟩ (.int .i64 0)).setCell ⟨w.heap.size, 1, none⟩ (.slice none 0 0)) (.slice none 0 0) ([] : List Pt) := FOwn.nil
    have B9 : Below w.heap.size w ((u2.setCell ⟨w.heap.size, 0, none⟩ (.int .i64 0)).setCell ⟨w.heap.size, 1, none⟩ (.slice none 0 0)) := (B2.setCell (p := ⟨w.heap.size, 0, none⟩) (Nat.le_refl _) _).setCell (p := ⟨w.heap.size, 1, none⟩) (Nat.le_refl _) _
    obtain ⟨⟨z0, z1⟩, zf⟩ := A0
    have g0 := zf 0
    have g1 := zf 1
    clear zf hR hno O1 lo1 P2 hNl
    go_wp2
    refine bodyPost_ret (v := .agg #[.int .i64 0, .slice none 0 0]) (by simp [results, Try.results17, go_sem, *]) rfl ⟨none, 0, rfl, O9, B9⟩
  clear hno
  go_wp2
  go_loopw [22] (fun i wr => ∃ (k : Nat) (a : Option Addr) (c : Nat) (L : List Pt), k ≤ X.length ∧ i = .int .i64 k ∧ ofL I N (X.take k) = L ∧ BBox wr p I (.slice a L.length c) ∧ FOwn ptEnc 11 43 w.heap.size wr (.slice a L.length c) L ∧ (∀ g, (Value.slice a L.length c).ownBlock = some g → g ≠ p ∧ g ≠ w.heap.size) ∧ BBox wr w.heap.size 0 (.slice none 0 0) ∧ Below w.heap.size w wr) (fun i _ => X.length - (intOf i).toNat)
  case atStart => exact ⟨0, a1, c1, N, Nat.zero_le _, rfl, rfl, P2, O1.base (by omega), fun g e => by have := lo1 g e; omega, A0, B2⟩
  case round =>
    obtain ⟨k, a, c, L, hk, rfl, hL, P, O, hne, A, B⟩ := hrel
    have hLl : L.length ≤ 4 := by rw [← hL, ofL_len]; exact hNl
    clear A0 P2 O1 B2 lo1
    by_cases hlt : k < X.length
    · have hst := ofL_step I N X Ik.nil hlt
      rw [hL] at hst
      replace hL : Hid _ := hL
      obtain ⟨b, off, rfl, _⟩ := hv (by omega)
      obtain ⟨x, hh⟩ : ∃ x, X.getD k Ik.nil = x := ⟨_, rfl⟩
      rw [hh] at hst
      have hck : IkAtO wr b (off + k * 8) x := by
        rw [← hh]
        exact ikAtO_of ((hv.below B hB).at_ ikEnc_len Ik.nil hlt)
      have hcB : b < w.heap.size := hB ⟨b, off, none⟩ rfl (by omega)
      replace hst : Hid _ := hst
      clear hh
      have lp2 := P.lt
      have bs := B.size
      have ln := O.lt
      obtain ⟨e0, e1, e2, e3, e4, e5, e6, e7⟩ := hck
      obtain ⟨u, hu⟩ : ∃ u, u = wr.alloc (Obj.cells #[.int .i64 x.k, .int .i64 x.q, .int .i64 x.r, .int .i64 x.c, .int .i64 x.b, .int .i64 x.p, .int .i64 x.h, .bool x.up] 30) := ⟨_, rfl⟩
      have ku : Below wr.heap.size wr u := by rw [hu]; exact below_new _
      have U : InAt u wr.heap.size x := by rw [hu]; exact InAt.new wr _ x
      have P := P.below ku P.lt
      have A := A.below ku A.lt
      have O := O.later ku
      have B3 := B.trans (ku.mono B.size)
      have su := ku.size
      go_upto_region 7 with fail
      rw [← hu]
      clear hu ku e0 e1 e2 e3 e4 e5 e6 e7 B
      have cc := P
      obtain ⟨⟨p0, p1⟩, pf⟩ := cc
      obtain ⟨e0, e1, e2, e3, e4, e5, e6, e7⟩ := U
      go_wp2_with fail
      go_at_call 11
      clear p0 p1 pf e0 e1 e2 e3 e4 e5 e6 e7
      refine (reactI I a c L x u O.view.2 (by omega) O.capn).mono ?_
      rintro e w2 ⟨a2, c2, o2, d2, rfl, O2, _, _, k2⟩
      obtain ⟨M, hM⟩ : ∃ M, reactL I L x = M := ⟨_, rfl⟩
      obtain ⟨OO, hOO⟩ : ∃ M, reactO I L x = M := ⟨_, rfl⟩
      rw [hM] at O2 ⊢
      rw [hOO]
      have hst2 : Hid (ofL I N (X.take (k + 1)) = M) := by unfold Hid; rw [hst.out]; exact hM
      clear hM hOO hst
      have P := P.below k2 P.lt
      have A := A.below k2 A.lt
      have B3 := B3.trans (k2.mono B3.size)
      have P9 := P.put I (.slice a2 M.length c2)
      have lo2 := O2.lt
      have O9 : FOwn ptEnc 11 43 w.heap.size ((w2.setCell ⟨p, 0, none⟩ (.int .i64 I)).setCell ⟨p, 1, none⟩ (.slice a2 M.length c2)) (.slice a2 M.length c2) M := (O2.base (by omega)).keep (fun g e => P.put1 I _ g (by have := lo2 g e; omega))
      have A9 := A.keep (P.put1 I (.slice a2 M.length c2) w.heap.size (by omega))
      have B9 : Below w.heap.size w ((w2.setCell ⟨p, 0, none⟩ (.int .i64 I)).setCell ⟨p, 1, none⟩ (.slice a2 M.length c2)) := (B3.setCell (p := ⟨p, 0, none⟩) (by show _ ≤ p; omega) _).setCell (p := ⟨p, 1, none⟩) (by show _ ≤ p; omega) _
      have hne9 : ∀ g, (Value.slice a2 M.length c2).ownBlock = some g → g ≠ p ∧ g ≠ w.heap.size := fun g e => by have := lo2 g e; omega
      clear O O2 hne ln A k2 B3 lo2
      obtain ⟨⟨p0, p1⟩, pf⟩ := P
      have g0 := pf 0
      have g1 := pf 1
      clear pf
      go_wp2
      go_roundw
      case rel => exact ⟨k + 1, a2, c2, M, by omega, by go_num, hst2.out, P9, O9, hne9, A9, B9⟩
      case measure => simp [intOf]; omega
    · obtain rfl : k = X.length := by omega
      rw [List.take_length] at hL
      obtain rfl : D = L := hR.out.trans hL
      have O9 : FOwn ptEnc 11 43 w.heap.size ((wr.setCell ⟨w.heap.size, 0, none⟩ (.int .i64 I)).setCell ⟨w.heap.size, 1, none⟩ (.slice a D.length c)) (.slice a D.length c) D := O.keep (fun g e => A.put1 I _ g (hne g e).2)
      have B9 : Below w.heap.size w ((wr.setCell ⟨w.heap.size, 0, none⟩ (.int .i64 I)).setCell ⟨w.heap.size, 1, none⟩ (.slice a D.length c)) := (B.setCell (p := ⟨w.heap.size, 0, none⟩) (Nat.le_refl _) _).setCell (p := ⟨w.heap.size, 1, none⟩) (Nat.le_refl _) _
      obtain ⟨⟨p0, p1⟩, pf⟩ := P
      obtain ⟨⟨z0, z1⟩, zf⟩ := A
      have g0 := zf 0
      have g1 := zf 1
      clear pf zf hne O B hL hR
      go_wp2
      refine bodyPost_ret (v := .agg #[.int .i64 I, .slice a D.length c]) (by simp [results, Try.results17, go_sem, *]) rfl ⟨a, c, rfl, O9, B9⟩

end Go.Proofs.Ytghmmcenjdbfgaa
namespace Go.Proofs.Ytghmmcenjdbfgaa
open Go.ChangeShapes Go.WideShapes Go.ChangeAt Go.RowKit
open Go.ChangeMaps (open_string shut_string)
set_option linter.unusedVariables false
set_option maxRecDepth 100000

set_option maxHeartbeats 4000000 in
theorem sayI (id n : Int) (ad : Option Addr) (cap : Nat) (X : List Ik) (i : Int) (w : World) (hv : FView ikEnc w ad X) (hl : X.length ≤ 1048576) (hcp : X.length ≤ cap) :
    Calls Try.prog 20 #[.int .i64 id, .int .i64 n, .slice ad X.length cap, .int .i64 i] w fun e w' => ∃ a c, e = .returned (.slice a (sayR id n X i).length c) ∧ FOwn ouEnc 8 38 w.heap.size w' (.slice a (sayR id n X i).length c) (sayR id n X i) ∧ Below w.heap.size w w' := by
  have hB := hv.lt ikEnc_len (by omega)
  by_cases h0 : i < 0
  · have d0 : decide (i < 0) = true := decide_eq_true h0
    have hD : sayR id n X i = [] := by unfold sayR sayL; rw [if_neg (by omega)]
    rw [hD]
    clear hD
    go_enter Try.func20, Try.ntmps20
    go_wp2
    go_ret
    exact ⟨none, 0, rfl, FOwn.nil, Below.refl _ _⟩
  · have d0 : decide (i < 0) = false := decide_eq_false h0
    obtain ⟨k, rfl⟩ : ∃ k : Nat, i = (k : Int) := ⟨i.toNat, by omega⟩
    by_cases hk : k < X.length
    · have d1 : decide ((X.length : Int) ≤ (k : Int)) = false := decide_eq_false (by omega)
      obtain ⟨b, off, rfl, _⟩ := hv (by omega)
      obtain ⟨x, hh⟩ : ∃ x, X.getD k Ik.nil = x := ⟨_, rfl⟩
      have hck : IkAtO w b (off + k * 8) x := by
        rw [← hh]
        exact ikAtO_of (hv.at_ ikEnc_len Ik.nil hk)
      have hcB : b < w.heap.size := hB ⟨b, off, none⟩ rfl (by omega)
      have hvT := hv.take k
      have hkl : (X.take k).length = k := by rw [List.length_take]; omega
      have hS : sayR id n X (k : Int) = reactO (newI id n) (ofR id n (X.take k)) x := by unfold sayR; rw [sayL_at _ _ X Ik.nil hk, hh]; rfl
      have hMl := ofR_len id n (X.take k)
      obtain ⟨I, hI⟩ : ∃ v, newI id n = v := ⟨_, rfl⟩
      obtain ⟨M, hM⟩ : ∃ v, ofR id n (X.take k) = v := ⟨_, rfl⟩
      obtain ⟨D, hD⟩ : ∃ v, sayR id n X (k : Int) = v := ⟨_, rfl⟩
      rw [hI, hM, hD] at hS
      rw [hM] at hMl
      rw [hD]
      obtain ⟨N, hN⟩ : ∃ v, reactL I M x = v := ⟨_, rfl⟩
      replace hS := hS.symm
      clear hh hD
      replace hS : Hid _ := hS
      replace hI : Hid _ := hI
      replace hM : Hid _ := hM
      replace hN : Hid _ := hN
      replace hkl : Hid _ := hkl
      go_enter Try.func20, Try.ntmps20
      go_upto_region 3 with fail
      refine wp_region_held (S := fun Y => Below w.heap.size w Y) (by kernel_rfl) ?_
      change wpAnyH _ _ _ _ _ _ _ _ (World.drew _)
      have hb0 : Below w.heap.size w w.drew := (Below.refl _ _).drew
      obtain ⟨u0, hy0⟩ : ∃ y_, y_ = w.drew := ⟨_, rfl⟩
      rw [← hy0] at hb0 ⊢
      clear hy0
      refine takeW 0 20 (.int .i64 id) rfl rfl (by kernel_rfl) (by kernel_rfl) (by kernel_rfl) (fun _ _ _ h => h) (by kernel_rfl) (by (intro w hSw; go_simp)) (by assumption) ?_
      simp only [List.set_cons_zero, List.set_cons_succ]
      refine takeW 1 21 (.int .i64 n) rfl rfl (by kernel_rfl) (by kernel_rfl) (by kernel_rfl) (fun _ _ _ h => h) (by kernel_rfl) (by (intro w hSw; go_simp)) (by assumption) ?_
      simp only [List.set_cons_zero, List.set_cons_succ]
      refine takeW 2 22 (.slice (some ⟨b, off, none⟩) X.length cap) rfl rfl (by kernel_rfl) (by kernel_rfl) (by kernel_rfl) (fun _ _ _ h => h) (by kernel_rfl) (by (intro w hSw; go_simp)) (by assumption) ?_
      simp only [List.set_cons_zero, List.set_cons_succ]
      refine takeW 3 23 (.int .i64 (k : Int)) rfl rfl (by kernel_rfl) (by kernel_rfl) (by kernel_rfl) (fun _ _ _ h => h) (by kernel_rfl) (by (intro w hSw; go_simp)) (by assumption) ?_
      simp only [List.set_cons_zero, List.set_cons_succ]
      refine takeW 4 24 (.slice (some ⟨b, off, none⟩) k cap) rfl rfl (by kernel_rfl) (by kernel_rfl) (by kernel_rfl) (fun _ _ _ h => h) (by kernel_rfl) (by (intro w hSw; go_simp; intro h_; omega)) (by assumption) ?_
      simp only [List.set_cons_zero, List.set_cons_succ]
      refine takeW 6 26 (.slice (some ⟨b, off, none⟩) X.length cap) rfl rfl (by kernel_rfl) (by kernel_rfl) (by kernel_rfl) (fun _ _ _ h => h) (by kernel_rfl) (by (intro w hSw; go_simp)) (by assumption) ?_
      simp only [List.set_cons_zero, List.set_cons_succ]
      refine takeW 7 27 (.int .i64 (k : Int)) rfl rfl (by kernel_rfl) (by kernel_rfl) (by kernel_rfl) (fun _ _ _ h => h) (by kernel_rfl) (by (intro w hSw; go_simp)) (by assumption) ?_
      simp only [List.set_cons_zero, List.set_cons_succ]
      refine takeW 8 28 (.pointer (some ⟨b, off + k * 8, none⟩)) rfl rfl (by kernel_rfl) (by kernel_rfl) (by kernel_rfl) (fun _ _ _ h => h) (by kernel_rfl) (by (intro w hSw; go_simp)) (by assumption) ?_
      simp only [List.set_cons_zero, List.set_cons_succ]
      refine takeW 9 29 (.agg #[.int .i64 x.k, .int .i64 x.q, .int .i64 x.r, .int .i64 x.c, .int .i64 x.b, .int .i64 x.p, .int .i64 x.h, .bool x.up]) rfl rfl (by kernel_rfl) (by kernel_rfl) (by kernel_rfl) (fun _ _ _ h => h) (by kernel_rfl) (by (intro Y hSw; obtain ⟨X0, X1, X2, X3, X4, X5, X6, X7⟩ := hck.below hSw hcB; go_simp)) (by assumption) ?_
      simp only [List.set_cons_zero, List.set_cons_succ]
      refine wpAnyH_all (rs := [5, 14]) (by kernel_rfl) (by simp) ?_
      intro i hi; rcases (by simpa using hi : i = 5 ∨ i = 14) with rfl | rfl
      · refine wpOp_step rfl (fun K hK => ?_)
        rw [if_pos (by kernel_rfl)]
        go_simp
        go_at_call 17
        refine (show Calls _ _ _ _ _ by have h_ := bofI id n (some ⟨b, off, none⟩) cap (X.take k) u0 (hvT.below hb0 (fun a e _ => by cases e; exact hcB)) (by rw [hkl.out]; omega); rw [hkl.out] at h_; exact h_).mono ?_
        rintro e u1 ⟨a1, c1, rfl, O1, kq⟩
        rw [hM.out] at O1 ⊢
        rw [hI.out]
        have hb1 : Below w.heap.size w u1 := hb0.trans (kq.mono hb0.size)
        clear kq
        refine hK _ _ ⟨hb1, ?_⟩
        clear hK K hi
        refine wpAnyH_all (rs := [10, 14]) (by kernel_rfl) (by simp) ?_
        intro i hi; rcases (by simpa using hi : i = 10 ∨ i = 14) with rfl | rfl
        · refine wpOp_step rfl (fun K hK => ?_)
          rw [if_pos (by kernel_rfl)]
          go_simp
          go_at_call 11
          refine (reactI I a1 c1 M x u1 O1.view.2 (by omega) O1.capn).mono ?_
          have bb : w.heap.size ≤ u1.heap.size := hb1.size
          rintro e u2 ⟨a2, c2, o2, d2, rfl, O2, Q2, _, kq⟩
          rw [hN.out] at O2 ⊢
          rw [hS.out] at Q2 ⊢
          have O1 := O1.later kq
          have hb2 : Below w.heap.size w u2 := hb1.trans (kq.mono hb1.size)
          clear kq
          refine hK _ _ ⟨hb2, ?_⟩
          clear hK K hi
          refine takeW 11 19 (.tuple #[.agg #[.int .i64 I, .slice a2 N.length c2], .slice o2 D.length d2]) rfl rfl (by kernel_rfl) (by kernel_rfl) (by kernel_rfl) (fun _ _ _ h => h) (by kernel_rfl) (by (intro w hSw; go_simp)) (by assumption) ?_
          simp only [List.set_cons_zero, List.set_cons_succ]
          refine takeW 12 31 (.agg #[.int .i64 I, .slice a2 N.length c2]) rfl rfl (by kernel_rfl) (by kernel_rfl) (by kernel_rfl) (fun _ _ _ h => h) (by kernel_rfl) (by (intro w hSw; go_simp)) (by assumption) ?_
          simp only [List.set_cons_zero, List.set_cons_succ]
          refine takeW 13 32 (.slice o2 D.length d2) rfl rfl (by kernel_rfl) (by kernel_rfl) (by kernel_rfl) (fun _ _ _ h => h) (by kernel_rfl) (by (intro w hSw; go_simp)) (by assumption) ?_
          simp only [List.set_cons_zero, List.set_cons_succ]
          refine wpAnyH_all (rs := [14]) (by kernel_rfl) (by simp) ?_
          intro i hi; obtain rfl : i = 14 := by simpa using hi
          refine wpOp_step rfl (fun K hK => ?_)
          rw [if_pos (by kernel_rfl)]
          go_simp
          obtain ⟨u3, hy⟩ : ∃ y_, y_ = u2.alloc (Obj.cells #[.int .i64 0, .slice none 0 0] 26) := ⟨_, rfl⟩
          have kq : Below u2.heap.size u2 u3 := by rw [hy]; exact below_new _
          have jO1 : ∀ g_, (Value.slice a1 M.length c1).ownBlock = some g_ → g_ ≠ u2.heap.size := fun g_ e => by have h1 := (O1.lt g_ e).2; omega
          have jO2 : ∀ g_, (Value.slice a2 N.length c2).ownBlock = some g_ → g_ ≠ u2.heap.size := fun g_ e => by have h1 := (O2.lt g_ e).2; omega
          have jQ2 : ∀ g_, (Value.slice o2 D.length d2).ownBlock = some g_ → g_ ≠ u2.heap.size := fun g_ e => by have h1 := (Q2.lt g_ e).2; omega
          have O1 := O1.later kq
          have O2 := O2.later kq
          have Q2 := Q2.later kq
          have FP : BBox u3 u2.heap.size 0 (.slice none 0 0) := by rw [hy]; exact BBox.new u2 _ _ _
          have pa : w.heap.size ≤ u2.heap.size := hb2.size
          have hb3 : Below w.heap.size w u3 := hb2.trans (kq.mono hb2.size)
          rw [← hy]
          clear hy kq
          refine hK _ _ ⟨hb3, ?_⟩
          clear hK K hi
          refine wpAnyH_all (rs := [15]) (by kernel_rfl) (by simp) ?_
          intro i hi; obtain rfl : i = 15 := by simpa using hi
          refine wpOp_step rfl (fun K hK => ?_)
          rw [if_pos (by kernel_rfl)]
          have FQ := FP
          obtain ⟨⟨t0, t1⟩, tf⟩ := FP
          go_simp
          clear t0 t1 tf
          obtain ⟨uf, huf⟩ : ∃ y_, y_ = (u3.setCell ⟨u2.heap.size, 0, none⟩ (.int .i64 I)).setCell ⟨u2.heap.size, 1, none⟩ (.slice a2 N.length c2) := ⟨_, rfl⟩
          have FE : BBox uf (u2.heap.size) I (.slice a2 N.length c2) := by rw [huf]; exact FQ.put _ _
          have hbf : Below w.heap.size w uf := by rw [huf]; exact (hb3.setCell (p := ⟨u2.heap.size, 0, none⟩) pa _).setCell (p := ⟨u2.heap.size, 1, none⟩) pa _
          have O1 := O1.keep (w' := uf) (fun g_ e => by rw [huf, Below.heap_setCell _ _ _ _ (by show g_ ≠ u2.heap.size; exact jO1 g_ e), Below.heap_setCell _ _ _ _ (by show g_ ≠ u2.heap.size; exact jO1 g_ e)])
          have O2 := O2.keep (w' := uf) (fun g_ e => by rw [huf, Below.heap_setCell _ _ _ _ (by show g_ ≠ u2.heap.size; exact jO2 g_ e), Below.heap_setCell _ _ _ _ (by show g_ ≠ u2.heap.size; exact jO2 g_ e)])
          have Q2 := Q2.keep (w' := uf) (fun g_ e => by rw [huf, Below.heap_setCell _ _ _ _ (by show g_ ≠ u2.heap.size; exact jQ2 g_ e), Below.heap_setCell _ _ _ _ (by show g_ ≠ u2.heap.size; exact jQ2 g_ e)])
          rw [← huf]
          clear huf FQ
          refine hK _ _ ⟨hbf, ?_⟩
          clear hK K hi
          refine takeW 16 10 (.slice o2 D.length d2) rfl rfl (by kernel_rfl) (by kernel_rfl) (by kernel_rfl) (fun _ _ _ h => h) (by kernel_rfl) (by (intro w hSw; go_simp)) (by assumption) ?_
          simp only [List.set_cons_zero, List.set_cons_succ]
          refine wpAnyH_done (by kernel_rfl) ?_ _
          have QZ := Q2.base bb
          go_wp2
          go_ret
          exact ⟨o2, d2, rfl, QZ, hbf⟩
        · refine wpOp_step rfl (fun K hK => ?_)
          rw [if_pos (by kernel_rfl)]
          go_simp
          obtain ⟨u2, hy⟩ : ∃ y_, y_ = u1.alloc (Obj.cells #[.int .i64 0, .slice none 0 0] 26) := ⟨_, rfl⟩
          have kq : Below u1.heap.size u1 u2 := by rw [hy]; exact below_new _
          have jO1 : ∀ g_, (Value.slice a1 M.length c1).ownBlock = some g_ → g_ ≠ u1.heap.size := fun g_ e => by have h1 := (O1.lt g_ e).2; omega
          have O1 := O1.later kq
          have FP : BBox u2 u1.heap.size 0 (.slice none 0 0) := by rw [hy]; exact BBox.new u1 _ _ _
          have pa : w.heap.size ≤ u1.heap.size := hb1.size
          have hb2 : Below w.heap.size w u2 := hb1.trans (kq.mono hb1.size)
          rw [← hy]
          clear hy kq
          refine hK _ _ ⟨hb2, ?_⟩
          clear hK K hi
          refine wpAnyH_all (rs := [10]) (by kernel_rfl) (by simp) ?_
          intro i hi; obtain rfl : i = 10 := by simpa using hi
          refine wpOp_step rfl (fun K hK => ?_)
          rw [if_pos (by kernel_rfl)]
          go_simp
          go_at_call 11
          refine (reactI I a1 c1 M x u2 O1.view.2 (by omega) O1.capn).mono ?_
          have bb : w.heap.size ≤ u2.heap.size := hb2.size
          rintro e u3 ⟨a2, c2, o2, d2, rfl, O2, Q2, _, kq⟩
          rw [hN.out] at O2 ⊢
          rw [hS.out] at Q2 ⊢
          have jO2 : ∀ g_, (Value.slice a2 N.length c2).ownBlock = some g_ → g_ ≠ u1.heap.size := fun g_ e => by have h1 := (O2.lt g_ e).1; have h2 := FP.lt; omega
          have jQ2 : ∀ g_, (Value.slice o2 D.length d2).ownBlock = some g_ → g_ ≠ u1.heap.size := fun g_ e => by have h1 := (Q2.lt g_ e).1; have h2 := FP.lt; omega
          have O1 := O1.later kq
          have FP := FP.below kq FP.lt
          have hb3 : Below w.heap.size w u3 := hb2.trans (kq.mono hb2.size)
          clear kq
          refine hK _ _ ⟨hb3, ?_⟩
          clear hK K hi
          refine takeW 11 19 (.tuple #[.agg #[.int .i64 I, .slice a2 N.length c2], .slice o2 D.length d2]) rfl rfl (by kernel_rfl) (by kernel_rfl) (by kernel_rfl) (fun _ _ _ h => h) (by kernel_rfl) (by (intro w hSw; go_simp)) (by assumption) ?_
          simp only [List.set_cons_zero, List.set_cons_succ]
          refine takeW 12 31 (.agg #[.int .i64 I, .slice a2 N.length c2]) rfl rfl (by kernel_rfl) (by kernel_rfl) (by kernel_rfl) (fun _ _ _ h => h) (by kernel_rfl) (by (intro w hSw; go_simp)) (by assumption) ?_
          simp only [List.set_cons_zero, List.set_cons_succ]
          refine takeW 13 32 (.slice o2 D.length d2) rfl rfl (by kernel_rfl) (by kernel_rfl) (by kernel_rfl) (fun _ _ _ h => h) (by kernel_rfl) (by (intro w hSw; go_simp)) (by assumption) ?_
          simp only [List.set_cons_zero, List.set_cons_succ]
          refine wpAnyH_all (rs := [15]) (by kernel_rfl) (by simp) ?_
          intro i hi; obtain rfl : i = 15 := by simpa using hi
          refine wpOp_step rfl (fun K hK => ?_)
          rw [if_pos (by kernel_rfl)]
          have FQ := FP
          obtain ⟨⟨t0, t1⟩, tf⟩ := FP
          go_simp
          clear t0 t1 tf
          obtain ⟨uf, huf⟩ : ∃ y_, y_ = (u3.setCell ⟨u1.heap.size, 0, none⟩ (.int .i64 I)).setCell ⟨u1.heap.size, 1, none⟩ (.slice a2 N.length c2) := ⟨_, rfl⟩
          have FE : BBox uf (u1.heap.size) I (.slice a2 N.length c2) := by rw [huf]; exact FQ.put _ _
          have hbf : Below w.heap.size w uf := by rw [huf]; exact (hb3.setCell (p := ⟨u1.heap.size, 0, none⟩) pa _).setCell (p := ⟨u1.heap.size, 1, none⟩) pa _
          have O1 := O1.keep (w' := uf) (fun g_ e => by rw [huf, Below.heap_setCell _ _ _ _ (by show g_ ≠ u1.heap.size; exact jO1 g_ e), Below.heap_setCell _ _ _ _ (by show g_ ≠ u1.heap.size; exact jO1 g_ e)])
          have O2 := O2.keep (w' := uf) (fun g_ e => by rw [huf, Below.heap_setCell _ _ _ _ (by show g_ ≠ u1.heap.size; exact jO2 g_ e), Below.heap_setCell _ _ _ _ (by show g_ ≠ u1.heap.size; exact jO2 g_ e)])
          have Q2 := Q2.keep (w' := uf) (fun g_ e => by rw [huf, Below.heap_setCell _ _ _ _ (by show g_ ≠ u1.heap.size; exact jQ2 g_ e), Below.heap_setCell _ _ _ _ (by show g_ ≠ u1.heap.size; exact jQ2 g_ e)])
          rw [← huf]
          clear huf FQ
          refine hK _ _ ⟨hbf, ?_⟩
          clear hK K hi
          refine takeW 16 10 (.slice o2 D.length d2) rfl rfl (by kernel_rfl) (by kernel_rfl) (by kernel_rfl) (fun _ _ _ h => h) (by kernel_rfl) (by (intro w hSw; go_simp)) (by assumption) ?_
          simp only [List.set_cons_zero, List.set_cons_succ]
          refine wpAnyH_done (by kernel_rfl) ?_ _
          have QZ := Q2.base bb
          go_wp2
          go_ret
          exact ⟨o2, d2, rfl, QZ, hbf⟩
      · refine wpOp_step rfl (fun K hK => ?_)
        rw [if_pos (by kernel_rfl)]
        go_simp
        obtain ⟨u1, hy⟩ : ∃ y_, y_ = u0.alloc (Obj.cells #[.int .i64 0, .slice none 0 0] 26) := ⟨_, rfl⟩
        have kq : Below u0.heap.size u0 u1 := by rw [hy]; exact below_new _
        have FP : BBox u1 u0.heap.size 0 (.slice none 0 0) := by rw [hy]; exact BBox.new u0 _ _ _
        have pa : w.heap.size ≤ u0.heap.size := hb0.size
        have hb1 : Below w.heap.size w u1 := hb0.trans (kq.mono hb0.size)
        rw [← hy]
        clear hy kq
        refine hK _ _ ⟨hb1, ?_⟩
        clear hK K hi
        refine wpAnyH_all (rs := [5]) (by kernel_rfl) (by simp) ?_
        intro i hi; obtain rfl : i = 5 := by simpa using hi
        refine wpOp_step rfl (fun K hK => ?_)
        rw [if_pos (by kernel_rfl)]
        go_simp
        go_at_call 17
        refine (show Calls _ _ _ _ _ by have h_ := bofI id n (some ⟨b, off, none⟩) cap (X.take k) u1 (hvT.below hb1 (fun a e _ => by cases e; exact hcB)) (by rw [hkl.out]; omega); rw [hkl.out] at h_; exact h_).mono ?_
        rintro e u2 ⟨a1, c1, rfl, O1, kq⟩
        rw [hM.out] at O1 ⊢
        rw [hI.out]
        have jO1 : ∀ g_, (Value.slice a1 M.length c1).ownBlock = some g_ → g_ ≠ u0.heap.size := fun g_ e => by have h1 := (O1.lt g_ e).1; have h2 := FP.lt; omega
        have FP := FP.below kq FP.lt
        have hb2 : Below w.heap.size w u2 := hb1.trans (kq.mono hb1.size)
        clear kq
        refine hK _ _ ⟨hb2, ?_⟩
        clear hK K hi
        refine wpAnyH_all (rs := [10]) (by kernel_rfl) (by simp) ?_
        intro i hi; obtain rfl : i = 10 := by simpa using hi
        refine wpOp_step rfl (fun K hK => ?_)
        rw [if_pos (by kernel_rfl)]
        go_simp
        go_at_call 11
        refine (reactI I a1 c1 M x u2 O1.view.2 (by omega) O1.capn).mono ?_
        have bb : w.heap.size ≤ u2.heap.size := hb2.size
        rintro e u3 ⟨a2, c2, o2, d2, rfl, O2, Q2, _, kq⟩
        rw [hN.out] at O2 ⊢
        rw [hS.out] at Q2 ⊢
        have jO2 : ∀ g_, (Value.slice a2 N.length c2).ownBlock = some g_ → g_ ≠ u0.heap.size := fun g_ e => by have h1 := (O2.lt g_ e).1; have h2 := FP.lt; omega
        have jQ2 : ∀ g_, (Value.slice o2 D.length d2).ownBlock = some g_ → g_ ≠ u0.heap.size := fun g_ e => by have h1 := (Q2.lt g_ e).1; have h2 := FP.lt; omega
        have O1 := O1.later kq
        have FP := FP.below kq FP.lt
        have hb3 : Below w.heap.size w u3 := hb2.trans (kq.mono hb2.size)
        clear kq
        refine hK _ _ ⟨hb3, ?_⟩
        clear hK K hi
        refine takeW 11 19 (.tuple #[.agg #[.int .i64 I, .slice a2 N.length c2], .slice o2 D.length d2]) rfl rfl (by kernel_rfl) (by kernel_rfl) (by kernel_rfl) (fun _ _ _ h => h) (by kernel_rfl) (by (intro w hSw; go_simp)) (by assumption) ?_
        simp only [List.set_cons_zero, List.set_cons_succ]
        refine takeW 12 31 (.agg #[.int .i64 I, .slice a2 N.length c2]) rfl rfl (by kernel_rfl) (by kernel_rfl) (by kernel_rfl) (fun _ _ _ h => h) (by kernel_rfl) (by (intro w hSw; go_simp)) (by assumption) ?_
        simp only [List.set_cons_zero, List.set_cons_succ]
        refine takeW 13 32 (.slice o2 D.length d2) rfl rfl (by kernel_rfl) (by kernel_rfl) (by kernel_rfl) (fun _ _ _ h => h) (by kernel_rfl) (by (intro w hSw; go_simp)) (by assumption) ?_
        simp only [List.set_cons_zero, List.set_cons_succ]
        refine wpAnyH_all (rs := [15]) (by kernel_rfl) (by simp) ?_
        intro i hi; obtain rfl : i = 15 := by simpa using hi
        refine wpOp_step rfl (fun K hK => ?_)
        rw [if_pos (by kernel_rfl)]
        have FQ := FP
        obtain ⟨⟨t0, t1⟩, tf⟩ := FP
        go_simp
        clear t0 t1 tf
        obtain ⟨uf, huf⟩ : ∃ y_, y_ = (u3.setCell ⟨u0.heap.size, 0, none⟩ (.int .i64 I)).setCell ⟨u0.heap.size, 1, none⟩ (.slice a2 N.length c2) := ⟨_, rfl⟩
        have FE : BBox uf (u0.heap.size) I (.slice a2 N.length c2) := by rw [huf]; exact FQ.put _ _
        have hbf : Below w.heap.size w uf := by rw [huf]; exact (hb3.setCell (p := ⟨u0.heap.size, 0, none⟩) pa _).setCell (p := ⟨u0.heap.size, 1, none⟩) pa _
        have O1 := O1.keep (w' := uf) (fun g_ e => by rw [huf, Below.heap_setCell _ _ _ _ (by show g_ ≠ u0.heap.size; exact jO1 g_ e), Below.heap_setCell _ _ _ _ (by show g_ ≠ u0.heap.size; exact jO1 g_ e)])
        have O2 := O2.keep (w' := uf) (fun g_ e => by rw [huf, Below.heap_setCell _ _ _ _ (by show g_ ≠ u0.heap.size; exact jO2 g_ e), Below.heap_setCell _ _ _ _ (by show g_ ≠ u0.heap.size; exact jO2 g_ e)])
        have Q2 := Q2.keep (w' := uf) (fun g_ e => by rw [huf, Below.heap_setCell _ _ _ _ (by show g_ ≠ u0.heap.size; exact jQ2 g_ e), Below.heap_setCell _ _ _ _ (by show g_ ≠ u0.heap.size; exact jQ2 g_ e)])
        rw [← huf]
        clear huf FQ
        refine hK _ _ ⟨hbf, ?_⟩
        clear hK K hi
        refine takeW 16 10 (.slice o2 D.length d2) rfl rfl (by kernel_rfl) (by kernel_rfl) (by kernel_rfl) (fun _ _ _ h => h) (by kernel_rfl) (by (intro w hSw; go_simp)) (by assumption) ?_
        simp only [List.set_cons_zero, List.set_cons_succ]
        refine wpAnyH_done (by kernel_rfl) ?_ _
        have QZ := Q2.base bb
        go_wp2
        go_ret
        exact ⟨o2, d2, rfl, QZ, hbf⟩
    · have d1 : decide ((X.length : Int) ≤ (k : Int)) = true := decide_eq_true (by omega)
      have hD : sayR id n X (k : Int) = [] := by unfold sayR sayL; rw [if_neg (by omega)]
      rw [hD]
      clear hD
      go_enter Try.func20, Try.ntmps20
      go_wp2
      go_ret
      exact ⟨none, 0, rfl, FOwn.nil, Below.refl _ _⟩

end Go.Proofs.Ytghmmcenjdbfgaa
namespace Go.Proofs.Ytghmmcenjdbfgaa
open Go.ChangeShapes Go.WideShapes Go.ChangeAt Go.RowKit
open Go.ChangeMaps (open_string shut_string)
set_option linter.unusedVariables false
set_option maxRecDepth 100000

set_option maxHeartbeats 4000000 in
theorem newBS (id n : Int) (w : World) :
    Calls Try.prog 71 #[.int .i64 id, .int .i64 n] w fun e w' => ∃ ad' cap', e = .returned (.tuple #[.agg #[.int .i64 (newI id n), .slice ad' (newL id n).length cap'], .bool (nOk id n)]) ∧ FOwn ptEnc 11 43 w.heap.size w' (.slice ad' (newL id n).length cap') (newL id n) ∧ Below w.heap.size w w' := by
  obtain ⟨i0, hi, hz0, hz1, hz2⟩ := info_parts ptInfo
  obtain ⟨y, hy⟩ : ∃ y, y = (w.alloc (Obj.cells #[.int .i64 0, .slice none 0 0] 26)).alloc (Obj.cells #[.int .i64 id, .slice none 0 0] 26) := ⟨_, rfl⟩
  have B0 : Below w.heap.size w y := by rw [hy]; exact ((Below.refl _ _).alloc (Nat.le_refl _) _).alloc (by simp) _
  have R0 : BBox y w.heap.size 0 (.slice none 0 0) := by rw [hy]; refine ⟨?_, fun i => ?_⟩; constructor <;> simp [go_sem]; simp [go_sem]
  have N0 : BBox y (w.heap.size + 1) id (.slice none 0 0) := by rw [hy]; refine ⟨?_, fun i => ?_⟩; constructor <;> simp [go_sem]; simp [go_sem]
  have S0 := N0.lt
  obtain ⟨IV, hI⟩ : ∃ v, v = newI id n := ⟨_, rfl⟩
  obtain ⟨LV, hM⟩ : ∃ v, v = newL id n := ⟨_, rfl⟩
  obtain ⟨NV, hN⟩ : ∃ v, v = nOk id n := ⟨_, rfl⟩
  rw [← hI, ← hM, ← hN]
  obtain ⟨m, hm⟩ : ∃ m : Nat, m = (if n < 5 then n else 5).toNat := ⟨_, rfl⟩
  have hm5 : m ≤ 5 := by rw [hm]; split <;> omega
  have hmn : nOk id n = nOk id (m : Int) := by
    unfold nOk
    congr 1
    apply decide_eq_decide.2
    rw [hm]
    split <;> omega
  have hmt : nOk id n = true → n.toNat = m := by
    intro h
    unfold nOk at h
    simp only [Bool.and_eq_true, decide_eq_true_eq] at h
    rw [hm, if_pos (by omega)]
  obtain ⟨t, ht⟩ : ∃ t : Int, t = (if n < 5 then n else 5) := ⟨_, rfl⟩
  have htm : t ≤ (m : Int) ∧ (0 ≤ t → t = (m : Int)) ∧ (t < 0 → m = 0) := by rw [ht, hm]; split <;> omega
  replace ht : Hid _ := ht
  replace hI : Hid _ := hI
  replace hM : Hid _ := hM
  replace hN : Hid _ := hN
  replace hmn : Hid _ := hmn
  replace hmt : Hid _ := hmt
  replace htm : Hid _ := htm
  clear hm
  go_enter Try.func71, Try.ntmps71
  go_wp2
  rw [← hy]
  clear hy
  go_loopw [7] (fun i wr => ∃ k : Nat, k ≤ m ∧ i = .int .i64 (k : Int) ∧ (∃ adk capk, FOwn ptEnc 11 43 y.heap.size wr (.slice adk k capk) (List.replicate k Pt.nil) ∧ BBox wr (w.heap.size + 1) id (.slice adk k capk)) ∧ BBox wr w.heap.size 0 (.slice none 0 0) ∧ Below w.heap.size w wr ∧ y.heap.size ≤ wr.heap.size) (fun i _ => m - (intOf i).toNat)
  case atStart => exact ⟨0, Nat.zero_le _, rfl, ⟨none, 0, FOwn.nil, N0⟩, R0, B0, Nat.le_refl _⟩
  case round =>
    obtain ⟨k, hk, rfl, ⟨adk, capk, O, N1⟩, R1, B1, S1⟩ := hrel
    obtain ⟨⟨n0, n1⟩, nf⟩ := N1
    have N1 : BBox wr (w.heap.size + 1) id (.slice adk k capk) := ⟨⟨n0, n1⟩, nf⟩
    by_cases hlt : (k : Int) < t
    · have dl : decide ((k : Int) < t) = true := decide_eq_true hlt
      have hkm : k < m := by have := htm.out; omega
      replace hlt : Hid _ := hlt
      go_wp2_with fail
      go_at_call 109
      refine (minS n 5 wr).mono ?_
      rintro e w2 ⟨rfl, rfl⟩
      rw [← ht.out]
      have V1 := FView.one w2 43 Pt.nil
      have B2 := B1.alloc B1.size (Obj.cells #[.bool false, .bool false, .int .i64 0, .int .i64 0, .int .i64 0, .int .i64 0, .int .i64 0, .int .i64 0, .int .i64 0, .int .i64 0, .bool false] 43)
      have O2 : FOwn ptEnc 11 43 y.heap.size (w2.alloc (Obj.cells #[.bool false, .bool false, .int .i64 0, .int .i64 0, .int .i64 0, .int .i64 0, .int .i64 0, .int .i64 0, .int .i64 0, .int .i64 0, .bool false] 43)) (.slice adk k capk) (List.replicate k Pt.nil) := O.later (below_new _)
      have hcn := O.capn
      go_wp2_with (first | (at_builtin; refine fappL ptEnc_len ptEnc_ones rfl _ _ 24 rfl y.heap.size 43 i0 (.agg #[.bool false, .bool false, .int .i64 0, .int .i64 0, .int .i64 0, .int .i64 0, .int .i64 0, .int .i64 0, .int .i64 0, .int .i64 0, .bool false]) 80 Try.underlying24 hi hz0 hz1 hz2 rfl (by decide) (by decide) (.slice adk k capk) (List.replicate k Pt.nil) rfl O2 (some ⟨w2.heap.size, 0, none⟩) 1 [Pt.nil] rfl (fun e => by cases e) V1 ?z0 ?z1 ?_) | go_in)
      case z0 => simp; omega
      case z1 => simp; omega
      intro vZ wZ hownZ hgrowZ _
      have hownZ : FOwn ptEnc 11 43 y.heap.size wZ vZ (List.replicate (k + 1) Pt.nil) := by rw [List.replicate_succ']; exact hownZ
      have ho : ∀ g, (Value.slice adk k capk).ownBlock = some g → y.heap.size ≤ g := fun g e => (O2.lt g e).1
      have BZ : Below w.heap.size w wZ := B2.grown hgrowZ B2.size (fun g e => by have := ho g e; omega)
      have NZ : BBox wZ (w.heap.size + 1) id (.slice adk k capk) := (N1.below (below_new _) N1.lt).keep (hgrowZ.block _ (by have := N1.lt; simp; omega) (fun e => by have := ho _ e.symm; omega))
      have RZ : BBox wZ w.heap.size 0 (.slice none 0 0) := (R1.below (below_new _) R1.lt).keep (hgrowZ.block _ (by have := R1.lt; simp; omega) (fun e => by have := ho _ e.symm; omega))
      have SZ : y.heap.size ≤ wZ.heap.size := by have := hgrowZ.size; simp at this; omega
      obtain ⟨aZ, cZ, hvz⟩ := hownZ.open_
      rw [List.length_replicate] at hvz
      subst hvz
      clear hgrowZ V1 B2 O2 n0 n1 nf N1 R1 O ho hcn
      obtain ⟨⟨q0, q1⟩, qf⟩ := NZ
      have NZ : BBox wZ (w.heap.size + 1) id (.slice adk k capk) := ⟨⟨q0, q1⟩, qf⟩
      have NS : BBox (wZ.setCell ⟨w.heap.size + 1, 1, none⟩ (.slice aZ (k + 1) cZ)) (w.heap.size + 1) id (.slice aZ (k + 1) cZ) := ⟨⟨(pset_else (by decide)).trans q0, pset_same q1⟩, fun i => by rw [World.frozen?_setCell]; exact qf i⟩
      have RS : BBox (wZ.setCell ⟨w.heap.size + 1, 1, none⟩ (.slice aZ (k + 1) cZ)) w.heap.size 0 (.slice none 0 0) := RZ.keep (Below.heap_setCell _ _ _ _ (by show w.heap.size ≠ w.heap.size + 1; omega))
      have OS : FOwn ptEnc 11 43 y.heap.size (wZ.setCell ⟨w.heap.size + 1, 1, none⟩ (.slice aZ (k + 1) cZ)) (.slice aZ (k + 1) cZ) (List.replicate (k + 1) Pt.nil) := hownZ.keep fun g' e => Below.heap_setCell _ _ _ _ (by have := (hownZ.lt g' e).1; show g' ≠ w.heap.size + 1; omega)
      have BS := BZ.setCell (p := ⟨w.heap.size + 1, 1, none⟩) (by show _ ≤ w.heap.size + 1; omega) (.slice aZ (k + 1) cZ)
      clear NZ RZ hownZ BZ
      go_wp2
      go_roundw
      case rel => exact ⟨k + 1, by omega, by go_num, ⟨aZ, cZ, OS, NS⟩, RS, BS, by simpa using SZ⟩
      case measure => simp [intOf]; omega
    · have dl : decide ((k : Int) < t) = false := decide_eq_false hlt
      have hkm : Hid (k = m) := by unfold Hid; have := htm.out; omega
      replace hlt : Hid _ := hlt
      go_wp2_with fail
      go_at_call 109
      refine (minS n 5 wr).mono ?_
      rintro e w2 ⟨rfl, rfl⟩
      rw [← ht.out]
      have hc := bOkS id adk capk (List.replicate k Pt.nil) w2 (by have := O.view.2; exact this) (by rw [List.length_replicate]; omega)
      rw [List.length_replicate, bOk_new, hkm.out, ← hmn.out, ← hkm.out] at hc
      go_wp2_with fail
      go_at_call 59
      refine hc.mono ?_
      rintro e w3 ⟨rfl, k3⟩
      have R3 := R1.below k3 R1.lt
      have N3 := N1.below k3 N1.lt
      have O3 := O.later k3
      have B3 := B1.trans (k3.mono B1.size)
      clear hc k3 n0 n1 nf R1 N1 O
      cases he : nOk id n with
      | false =>
        replace hI : Hid (IV = 0) := by unfold Hid; rw [hI.out]; unfold newI; rw [he]; rfl
        replace hM : Hid (LV = []) := by unfold Hid; rw [hM.out]; unfold newL; rw [he]; rfl
        replace hN : Hid (NV = false) := by unfold Hid; rw [hN.out, he]
        clear he
        have RP := R3.put 0 (.slice none 0 0)
        obtain ⟨⟨r0, r1⟩, rf⟩ := R3
        have BZ := (B3.setCell (p := ⟨w.heap.size, 0, none⟩) (Nat.le_refl w.heap.size) (.int .i64 0)).setCell (p := ⟨w.heap.size, 1, none⟩) (Nat.le_refl w.heap.size) (.slice none 0 0)
        obtain ⟨⟨p0, p1⟩, _⟩ := RP
        go_wp2
        refine bodyPost_ret (v := .tuple #[.agg #[.int .i64 0, .slice none 0 0], .bool false]) (by simp [results, Try.results71, go_sem, *]) rfl ⟨none, 0, by rw [hI.out, hM.out, hN.out]; rfl, by rw [hM.out]; exact FOwn.nil, BZ⟩
      | true =>
        have hRl : Hid (LV.length = k) := by unfold Hid; rw [hM.out]; unfold newL; rw [he, if_pos rfl, List.length_replicate, hmt.out he, hkm.out]
        replace hI : Hid (IV = id) := by unfold Hid; rw [hI.out]; unfold newI; rw [he]; rfl
        replace hM : Hid (LV = List.replicate k Pt.nil) := by unfold Hid; rw [hM.out]; unfold newL; rw [he, if_pos rfl, hmt.out he, hkm.out]
        replace hN : Hid (NV = true) := by unfold Hid; rw [hN.out, he]
        clear he hkm
        have RP := R3.put id (.slice adk k capk)
        obtain ⟨⟨r0, r1⟩, rf⟩ := R3
        obtain ⟨⟨n0, n1⟩, nf⟩ := N3
        have BZ := (B3.setCell (p := ⟨w.heap.size, 0, none⟩) (Nat.le_refl w.heap.size) (.int .i64 id)).setCell (p := ⟨w.heap.size, 1, none⟩) (Nat.le_refl w.heap.size) (.slice adk k capk)
        have OZ : FOwn ptEnc 11 43 w.heap.size ((w3.setCell ⟨w.heap.size, 0, none⟩ (.int .i64 id)).setCell ⟨w.heap.size, 1, none⟩ (.slice adk k capk)) (.slice adk k capk) (List.replicate k Pt.nil) := (O3.base (by omega)).keep fun g' e => by
          have := (O3.lt g' e).1
          rw [Below.heap_setCell _ _ _ _ (by show g' ≠ w.heap.size; omega), Below.heap_setCell _ _ _ _ (by show g' ≠ w.heap.size; omega)]
        obtain ⟨⟨p0, p1⟩, _⟩ := RP
        go_wp2
        refine bodyPost_ret (v := .tuple #[.agg #[.int .i64 id, .slice adk k capk], .bool true]) (by simp [results, Try.results71, go_sem, *]) rfl ⟨adk, capk, by rw [hI.out, hN.out, hRl.out], by rw [hRl.out, hM.out]; exact OZ, BZ⟩

end Go.Proofs.Ytghmmcenjdbfgaa
namespace Go.Proofs.Ytghmmcenjdbfgaa
open Go.ChangeShapes Go.WideShapes Go.ChangeAt Go.RowKit
open Go.ChangeMaps (open_string shut_string)
set_option linter.unusedVariables false
set_option maxRecDepth 100000

set_option maxHeartbeats 4000000 in
theorem bofS (id n : Int) (ad : Option Addr) (cap : Nat) (X : List Ik) (w : World) (hv : FView ikEnc w ad X) (hl : X.length ≤ 1048576) :
    Calls Try.prog 18 #[.int .i64 id, .int .i64 n, .slice ad X.length cap] w fun e w' => ∃ a c, e = .returned (.agg #[.int .i64 (newI id n), .slice a (ofR id n X).length c]) ∧ FOwn ptEnc 11 43 w.heap.size w' (.slice a (ofR id n X).length c) (ofR id n X) ∧ Below w.heap.size w w' := by
  have hB := hv.lt ikEnc_len (by omega)
  obtain ⟨y, hy⟩ : ∃ y, y = w.alloc (Obj.cells #[.int .i64 0, .slice none 0 0] 26) := ⟨_, rfl⟩
  have B0 : Below w.heap.size w y := by rw [hy]; exact below_new _
  have A0 : BBox y w.heap.size 0 (.slice none 0 0) := by rw [hy]; exact BBox.new w _ _ _
  have S0 := A0.lt
  have hR : ofR id n X = ofL (newI id n) (newL id n) X := rfl
  have hNl := newL_small id n
  have hno := fun h => ofR_not (id := id) (n := n) X h
  obtain ⟨I, hI⟩ : ∃ v, newI id n = v := ⟨_, rfl⟩
  obtain ⟨N, hN⟩ : ∃ v, newL id n = v := ⟨_, rfl⟩
  obtain ⟨ok, hok⟩ : ∃ v, nOk id n = v := ⟨_, rfl⟩
  obtain ⟨D, hD⟩ : ∃ v, ofR id n X = v := ⟨_, rfl⟩
  rw [hI, hN, hD] at hR
  rw [hI, hD, hok] at hno
  rw [hN] at hNl
  rw [hI, hD]
  replace hR : Hid _ := hR
  replace hno : Hid _ := hno
  replace hI : Hid _ := hI
  replace hN : Hid _ := hN
  replace hok : Hid _ := hok
  clear hD
  go_enter Try.func18, Try.ntmps18
  go_wp2_with fail
  go_at_call 71
  rw [← hy]
  clear hy
  refine (newBS id n y).mono ?_
  rintro e u1 ⟨a1, c1, rfl, O1, k1⟩
  rw [hN.out] at O1
  rw [hI.out, hN.out, hok.out]
  clear hI hN hok
  have B1 := B0.trans (k1.mono B0.size)
  have A0 := A0.below k1 A0.lt
  have s1 := k1.size
  have lo1 := O1.lt
  clear k1 B0
  obtain ⟨u2, hu2⟩ : ∃ u2, u2 = u1.alloc (Obj.cells #[.int .i64 I, .slice a1 N.length c1] 26) := ⟨_, rfl⟩
  have k2 : Below u1.heap.size u1 u2 := by rw [hu2]; exact below_new _
  have P2 : BBox u2 u1.heap.size I (.slice a1 N.length c1) := by rw [hu2]; exact BBox.new u1 _ _ _
  have B2 := B1.trans (k2.mono B1.size)
  have A0 := A0.below k2 A0.lt
  have O1 := O1.later k2
  have s2 := P2.lt
  go_upto_region 2 with fail
  rw [← hu2]
  clear hu2 k2 B1
  obtain ⟨p, hp⟩ : ∃ p, p = u1.heap.size := ⟨_, rfl⟩
  rw [← hp] at P2 s1 s2 lo1 ⊢
  clear hp
  have lp : w.heap.size < p := by omega
  clear hno
  go_wp2
  go_loopw [9] (fun i wr => ∃ (k : Nat) (a : Option Addr) (c : Nat) (L : List Pt), k ≤ X.length ∧ i = .int .i64 k ∧ ofL I N (X.take k) = L ∧ BBox wr p I (.slice a L.length c) ∧ FOwn ptEnc 11 43 w.heap.size wr (.slice a L.length c) L ∧ (∀ g, (Value.slice a L.length c).ownBlock = some g → g ≠ p ∧ g ≠ w.heap.size) ∧ BBox wr w.heap.size 0 (.slice none 0 0) ∧ Below w.heap.size w wr) (fun i _ => X.length - (intOf i).toNat)
  case atStart => exact ⟨0, a1, c1, N, Nat.zero_le _, rfl, rfl, P2, O1.base (by omega), fun g e => by have := lo1 g e; omega, A0, B2⟩
  case round =>
    obtain ⟨k, a, c, L, hk, rfl, hL, P, O, hne, A, B⟩ := hrel
    have hLl : L.length ≤ 4 := by rw [← hL, ofL_len]; exact hNl
    clear A0 P2 O1 B2 lo1
    by_cases hlt : k < X.length
    · have hst := ofL_step I N X Ik.nil hlt
      rw [hL] at hst
      replace hL : Hid _ := hL
      obtain ⟨b, off, rfl, _⟩ := hv (by omega)
      obtain ⟨x, hh⟩ : ∃ x, X.getD k Ik.nil = x := ⟨_, rfl⟩
      rw [hh] at hst
      have hck : IkAtO wr b (off + k * 8) x := by
        rw [← hh]
        exact ikAtO_of ((hv.below B hB).at_ ikEnc_len Ik.nil hlt)
      have hcB : b < w.heap.size := hB ⟨b, off, none⟩ rfl (by omega)
      replace hst : Hid _ := hst
      clear hh
      have lp2 := P.lt
      have bs := B.size
      have ln := O.lt
      go_upto_region 5 with fail
      refine wp_region_held (S := fun Y => Below w.heap.size wr Y) (by kernel_rfl) ?_
      change wpAnyH _ _ _ _ _ _ _ _ (World.drew _)
      have hb0 : Below wr.heap.size wr wr.drew := (Below.refl _ _).drew
      obtain ⟨u, hy0'⟩ : ∃ y_, y_ = wr.drew := ⟨_, rfl⟩
      rw [← hy0'] at hb0 ⊢
      clear hy0'
      have hc0 : Below w.heap.size wr u := hb0.mono (by omega)
      refine takeW 1 24 (.slice (some ⟨b, off, none⟩) X.length cap) rfl rfl (by kernel_rfl) (by kernel_rfl) (by kernel_rfl) (fun _ _ _ h => h) (by kernel_rfl) (by (intro w hSw; go_simp)) (by assumption) ?_
      simp only [List.set_cons_zero, List.set_cons_succ]
      refine takeW 2 25 (.int .i64 (k : Int)) rfl rfl (by kernel_rfl) (by kernel_rfl) (by kernel_rfl) (fun _ _ _ h => h) (by kernel_rfl) (by (intro w hSw; go_simp)) (by assumption) ?_
      simp only [List.set_cons_zero, List.set_cons_succ]
      refine takeW 3 26 (.pointer (some ⟨b, off + k * 8, none⟩)) rfl rfl (by kernel_rfl) (by kernel_rfl) (by kernel_rfl) (fun _ _ _ h => h) (by kernel_rfl) (by (intro w hSw; go_simp)) (by assumption) ?_
      simp only [List.set_cons_zero, List.set_cons_succ]
      refine takeW 4 27 (.agg #[.int .i64 x.k, .int .i64 x.q, .int .i64 x.r, .int .i64 x.c, .int .i64 x.b, .int .i64 x.p, .int .i64 x.h, .bool x.up]) rfl rfl (by kernel_rfl) (by kernel_rfl) (by kernel_rfl) (fun _ _ _ h => h) (by kernel_rfl) (by (intro Y hSw; obtain ⟨X0, X1, X2, X3, X4, X5, X6, X7⟩ := hck.below hSw hcB; go_simp)) (by assumption) ?_
      simp only [List.set_cons_zero, List.set_cons_succ]
      have P := P.below hb0 P.lt
      have A := A.below hb0 A.lt
      have O := O.later hb0
      have B3 := B.trans (hb0.mono B.size)
      have su := hb0.size
      refine wpAnyH_all (rs := [0]) (by kernel_rfl) (by simp) ?_
      intro i hi; obtain rfl : i = 0 := by simpa using hi
      refine wpOp_step rfl (fun Kz hKz => ?_)
      rw [if_pos (by kernel_rfl)]
      have cc := P
      obtain ⟨⟨p0, p1⟩, pf⟩ := cc
      go_simp
      clear p0 p1 pf
      refine hKz _ _ ⟨hc0, ?_⟩
      clear hKz Kz hi
      refine wpAnyH_all (rs := [5]) (by kernel_rfl) (by simp) ?_
      intro i hi; obtain rfl : i = 5 := by simpa using hi
      refine wpOp_step rfl (fun Kz hKz => ?_)
      rw [if_pos (by kernel_rfl)]
      go_simp
      go_at_call 12
      refine (reactS I a c L x u O.view.2 (by omega) O.capn).mono ?_
      rintro e w2 ⟨a2, c2, o2, d2, rfl, O2, _, _, k2⟩
      obtain ⟨M, hM⟩ : ∃ M, reactL I L x = M := ⟨_, rfl⟩
      obtain ⟨OO, hOO⟩ : ∃ M, reactO I L x = M := ⟨_, rfl⟩
      rw [hM] at O2 ⊢
      rw [hOO]
      have hst2 : Hid (ofL I N (X.take (k + 1)) = M) := by unfold Hid; rw [hst.out]; exact hM
      clear hM hOO hst
      have hc1 : Below w.heap.size wr w2 := hc0.trans (k2.mono (by omega))
      have P := P.below k2 P.lt
      have A := A.below k2 A.lt
      have B3 := B3.trans (k2.mono B3.size)
      refine hKz _ _ ⟨hc1, ?_⟩
      clear hKz Kz hi
      refine takeW 6 22 (.tuple #[.agg #[.int .i64 I, .slice a2 M.length c2], .slice o2 OO.length d2]) rfl rfl (by kernel_rfl) (by kernel_rfl) (by kernel_rfl) (fun _ _ _ h => h) (by kernel_rfl) (by (intro w hSw; go_simp)) (by assumption) ?_
      simp only [List.set_cons_zero, List.set_cons_succ]
      refine takeW 7 29 (.agg #[.int .i64 I, .slice a2 M.length c2]) rfl rfl (by kernel_rfl) (by kernel_rfl) (by kernel_rfl) (fun _ _ _ h => h) (by kernel_rfl) (by (intro w hSw; go_simp)) (by assumption) ?_
      simp only [List.set_cons_zero, List.set_cons_succ]
      refine takeW 8 30 (.slice o2 OO.length d2) rfl rfl (by kernel_rfl) (by kernel_rfl) (by kernel_rfl) (fun _ _ _ h => h) (by kernel_rfl) (by (intro w hSw; go_simp)) (by assumption) ?_
      simp only [List.set_cons_zero, List.set_cons_succ]
      refine wpAnyH_all (rs := [9]) (by kernel_rfl) (by simp) ?_
      intro i hi; obtain rfl : i = 9 := by simpa using hi
      refine wpOp_step rfl (fun Kz hKz => ?_)
      rw [if_pos (by kernel_rfl)]
      have cc := P
      obtain ⟨⟨p0, p1⟩, pf⟩ := cc
      have g0 := pf 0
      have g1 := pf 1
      clear pf
      go_simp
      clear p0 p1 g0 g1
      have hc2 : Below w.heap.size wr ((w2.setCell ⟨p, 0, none⟩ (.int .i64 I)).setCell ⟨p, 1, none⟩ (.slice a2 M.length c2)) := (hc1.setCell (p := ⟨p, 0, none⟩) (by show _ ≤ p; omega) _).setCell (p := ⟨p, 1, none⟩) (by show _ ≤ p; omega) _
      refine hKz _ _ ⟨hc2, ?_⟩
      clear hKz Kz hi
      refine wpAnyH_done (by kernel_rfl) ?_ _
      have P9 := P.put I (.slice a2 M.length c2)
      have lo2 := O2.lt
      have O9 : FOwn ptEnc 11 43 w.heap.size ((w2.setCell ⟨p, 0, none⟩ (.int .i64 I)).setCell ⟨p, 1, none⟩ (.slice a2 M.length c2)) (.slice a2 M.length c2) M := (O2.base (by omega)).keep (fun g e => P.put1 I _ g (by have := lo2 g e; omega))
      have A9 := A.keep (P.put1 I (.slice a2 M.length c2) w.heap.size (by omega))
      have B9 : Below w.heap.size w ((w2.setCell ⟨p, 0, none⟩ (.int .i64 I)).setCell ⟨p, 1, none⟩ (.slice a2 M.length c2)) := (B3.setCell (p := ⟨p, 0, none⟩) (by show _ ≤ p; omega) _).setCell (p := ⟨p, 1, none⟩) (by show _ ≤ p; omega) _
      have hne9 : ∀ g, (Value.slice a2 M.length c2).ownBlock = some g → g ≠ p ∧ g ≠ w.heap.size := fun g e => by have := lo2 g e; omega
      clear O O2 hne ln A k2 B3 lo2 P
      go_wp2
      go_roundw
      case rel => exact ⟨k + 1, a2, c2, M, by omega, by go_num, hst2.out, P9, O9, hne9, A9, B9⟩
      case measure => simp [intOf]; omega
    · obtain rfl : k = X.length := by omega
      rw [List.take_length] at hL
      obtain rfl : D = L := hR.out.trans hL
      have O9 : FOwn ptEnc 11 43 w.heap.size ((wr.setCell ⟨w.heap.size, 0, none⟩ (.int .i64 I)).setCell ⟨w.heap.size, 1, none⟩ (.slice a D.length c)) (.slice a D.length c) D := O.keep (fun g e => A.put1 I _ g (hne g e).2)
      have B9 : Below w.heap.size w ((wr.setCell ⟨w.heap.size, 0, none⟩ (.int .i64 I)).setCell ⟨w.heap.size, 1, none⟩ (.slice a D.length c)) := (B.setCell (p := ⟨w.heap.size, 0, none⟩) (Nat.le_refl _) _).setCell (p := ⟨w.heap.size, 1, none⟩) (Nat.le_refl _) _
      obtain ⟨⟨p0, p1⟩, pf⟩ := P
      obtain ⟨⟨z0, z1⟩, zf⟩ := A
      have g0 := zf 0
      have g1 := zf 1
      clear pf zf hne O B hL hR
      go_wp2
      refine bodyPost_ret (v := .agg #[.int .i64 I, .slice a D.length c]) (by simp [results, Try.results18, go_sem, *]) rfl ⟨a, c, rfl, O9, B9⟩

end Go.Proofs.Ytghmmcenjdbfgaa
namespace Go.Proofs.Ytghmmcenjdbfgaa
open Go.ChangeShapes Go.WideShapes Go.ChangeAt Go.RowKit
open Go.ChangeMaps (open_string shut_string)
set_option linter.unusedVariables false
set_option maxRecDepth 100000

set_option maxHeartbeats 4000000 in
theorem sayS (id n : Int) (ad : Option Addr) (cap : Nat) (X : List Ik) (i : Int) (w : World) (hv : FView ikEnc w ad X) (hl : X.length ≤ 1048576) (hcp : X.length ≤ cap) :
    Calls Try.prog 22 #[.int .i64 id, .int .i64 n, .slice ad X.length cap, .int .i64 i] w fun e w' => ∃ a c, e = .returned (.slice a (sayR id n X i).length c) ∧ FOwn ouEnc 8 38 w.heap.size w' (.slice a (sayR id n X i).length c) (sayR id n X i) ∧ Below w.heap.size w w' := by
  have hB := hv.lt ikEnc_len (by omega)
  by_cases h0 : 0 ≤ i ∧ i ≤ (X.length : Int) - 1
  · obtain ⟨k, rfl⟩ : ∃ k : Nat, i = (k : Int) := ⟨i.toNat, by omega⟩
    have hk : k < X.length := by omega
    have d0 : decide (0 ≤ (k : Int) ∧ (k : Int) ≤ (X.length : Int) - 1) = true := decide_eq_true h0
    obtain ⟨b, off, rfl, _⟩ := hv (by omega)
    obtain ⟨x, hh⟩ : ∃ x, X.getD k Ik.nil = x := ⟨_, rfl⟩
    have hck : IkAtO w b (off + k * 8) x := by
      rw [← hh]
      exact ikAtO_of (hv.at_ ikEnc_len Ik.nil hk)
    have hcB : b < w.heap.size := hB ⟨b, off, none⟩ rfl (by omega)
    have hvT := hv.take k
    have hkl : (X.take k).length = k := by rw [List.length_take]; omega
    have hS : sayR id n X (k : Int) = reactO (newI id n) (ofR id n (X.take k)) x := by unfold sayR; rw [sayL_at _ _ X Ik.nil hk, hh]; rfl
    have hMl := ofR_len id n (X.take k)
    obtain ⟨I, hI⟩ : ∃ v, newI id n = v := ⟨_, rfl⟩
    obtain ⟨M, hM⟩ : ∃ v, ofR id n (X.take k) = v := ⟨_, rfl⟩
    obtain ⟨D, hD⟩ : ∃ v, sayR id n X (k : Int) = v := ⟨_, rfl⟩
    rw [hI, hM, hD] at hS
    rw [hM] at hMl
    rw [hD]
    obtain ⟨N, hN⟩ : ∃ v, reactL I M x = v := ⟨_, rfl⟩
    replace hS := hS.symm
    clear hh hD
    replace hS : Hid _ := hS
    replace hI : Hid _ := hI
    replace hM : Hid _ := hM
    replace hN : Hid _ := hN
    replace hkl : Hid _ := hkl
    go_enter Try.func22, Try.ntmps22
    go_wp2_with fail
    go_at_call 72
    refine (inB (k : Int) 0 ((X.length : Int) - 1) w).mono ?_
    rintro e w_ ⟨rfl, hw_⟩
    rw [d0, hw_]
    clear d0 h0 hw_
    go_upto_region 3 with fail
    refine wp_region_held (S := fun Y => Below w.heap.size w Y) (by kernel_rfl) ?_
    change wpAnyH _ _ _ _ _ _ _ _ (World.drew _)
    have hb0 : Below w.heap.size w w.drew := (Below.refl _ _).drew
    obtain ⟨u0, hy0⟩ : ∃ y_, y_ = w.drew := ⟨_, rfl⟩
    rw [← hy0] at hb0 ⊢
    clear hy0
    refine takeW 0 19 (.int .i64 id) rfl rfl (by kernel_rfl) (by kernel_rfl) (by kernel_rfl) (fun _ _ _ h => h) (by kernel_rfl) (by (intro w hSw; go_simp)) (by assumption) ?_
    simp only [List.set_cons_zero, List.set_cons_succ]
    refine takeW 1 20 (.int .i64 n) rfl rfl (by kernel_rfl) (by kernel_rfl) (by kernel_rfl) (fun _ _ _ h => h) (by kernel_rfl) (by (intro w hSw; go_simp)) (by assumption) ?_
    simp only [List.set_cons_zero, List.set_cons_succ]
    refine takeW 2 21 (.slice (some ⟨b, off, none⟩) X.length cap) rfl rfl (by kernel_rfl) (by kernel_rfl) (by kernel_rfl) (fun _ _ _ h => h) (by kernel_rfl) (by (intro w hSw; go_simp)) (by assumption) ?_
    simp only [List.set_cons_zero, List.set_cons_succ]
    refine takeW 3 22 (.int .i64 (k : Int)) rfl rfl (by kernel_rfl) (by kernel_rfl) (by kernel_rfl) (fun _ _ _ h => h) (by kernel_rfl) (by (intro w hSw; go_simp)) (by assumption) ?_
    simp only [List.set_cons_zero, List.set_cons_succ]
    refine takeW 4 23 (.slice (some ⟨b, off, none⟩) k cap) rfl rfl (by kernel_rfl) (by kernel_rfl) (by kernel_rfl) (fun _ _ _ h => h) (by kernel_rfl) (by (intro w hSw; go_simp; intro h_; omega)) (by assumption) ?_
    simp only [List.set_cons_zero, List.set_cons_succ]
    refine takeW 6 25 (.slice (some ⟨b, off, none⟩) X.length cap) rfl rfl (by kernel_rfl) (by kernel_rfl) (by kernel_rfl) (fun _ _ _ h => h) (by kernel_rfl) (by (intro w hSw; go_simp)) (by assumption) ?_
    simp only [List.set_cons_zero, List.set_cons_succ]
    refine takeW 7 26 (.int .i64 (k : Int)) rfl rfl (by kernel_rfl) (by kernel_rfl) (by kernel_rfl) (fun _ _ _ h => h) (by kernel_rfl) (by (intro w hSw; go_simp)) (by assumption) ?_
    simp only [List.set_cons_zero, List.set_cons_succ]
    refine takeW 8 27 (.pointer (some ⟨b, off + k * 8, none⟩)) rfl rfl (by kernel_rfl) (by kernel_rfl) (by kernel_rfl) (fun _ _ _ h => h) (by kernel_rfl) (by (intro w hSw; go_simp)) (by assumption) ?_
    simp only [List.set_cons_zero, List.set_cons_succ]
    refine takeW 9 28 (.agg #[.int .i64 x.k, .int .i64 x.q, .int .i64 x.r, .int .i64 x.c, .int .i64 x.b, .int .i64 x.p, .int .i64 x.h, .bool x.up]) rfl rfl (by kernel_rfl) (by kernel_rfl) (by kernel_rfl) (fun _ _ _ h => h) (by kernel_rfl) (by (intro Y hSw; obtain ⟨X0, X1, X2, X3, X4, X5, X6, X7⟩ := hck.below hSw hcB; go_simp)) (by assumption) ?_
    simp only [List.set_cons_zero, List.set_cons_succ]
    refine wpAnyH_all (rs := [5, 14]) (by kernel_rfl) (by simp) ?_
    intro i hi; rcases (by simpa using hi : i = 5 ∨ i = 14) with rfl | rfl
    · refine wpOp_step rfl (fun K hK => ?_)
      rw [if_pos (by kernel_rfl)]
      go_simp
      go_at_call 18
      refine (show Calls _ _ _ _ _ by have h_ := bofS id n (some ⟨b, off, none⟩) cap (X.take k) u0 (hvT.below hb0 (fun a e _ => by cases e; exact hcB)) (by rw [hkl.out]; omega); rw [hkl.out] at h_; exact h_).mono ?_
      rintro e u1 ⟨a1, c1, rfl, O1, kq⟩
      rw [hM.out] at O1 ⊢
      rw [hI.out]
      have hb1 : Below w.heap.size w u1 := hb0.trans (kq.mono hb0.size)
      clear kq
      refine hK _ _ ⟨hb1, ?_⟩
      clear hK K hi
      refine wpAnyH_all (rs := [10, 14]) (by kernel_rfl) (by simp) ?_
      intro i hi; rcases (by simpa using hi : i = 10 ∨ i = 14) with rfl | rfl
      · refine wpOp_step rfl (fun K hK => ?_)
        rw [if_pos (by kernel_rfl)]
        go_simp
        go_at_call 12
        refine (reactS I a1 c1 M x u1 O1.view.2 (by omega) O1.capn).mono ?_
        have bb : w.heap.size ≤ u1.heap.size := hb1.size
        rintro e u2 ⟨a2, c2, o2, d2, rfl, O2, Q2, _, kq⟩
        rw [hN.out] at O2 ⊢
        rw [hS.out] at Q2 ⊢
        have O1 := O1.later kq
        have hb2 : Below w.heap.size w u2 := hb1.trans (kq.mono hb1.size)
        clear kq
        refine hK _ _ ⟨hb2, ?_⟩
        clear hK K hi
        refine takeW 11 18 (.tuple #[.agg #[.int .i64 I, .slice a2 N.length c2], .slice o2 D.length d2]) rfl rfl (by kernel_rfl) (by kernel_rfl) (by kernel_rfl) (fun _ _ _ h => h) (by kernel_rfl) (by (intro w hSw; go_simp)) (by assumption) ?_
        simp only [List.set_cons_zero, List.set_cons_succ]
        refine takeW 12 30 (.agg #[.int .i64 I, .slice a2 N.length c2]) rfl rfl (by kernel_rfl) (by kernel_rfl) (by kernel_rfl) (fun _ _ _ h => h) (by kernel_rfl) (by (intro w hSw; go_simp)) (by assumption) ?_
        simp only [List.set_cons_zero, List.set_cons_succ]
        refine takeW 13 31 (.slice o2 D.length d2) rfl rfl (by kernel_rfl) (by kernel_rfl) (by kernel_rfl) (fun _ _ _ h => h) (by kernel_rfl) (by (intro w hSw; go_simp)) (by assumption) ?_
        simp only [List.set_cons_zero, List.set_cons_succ]
        refine wpAnyH_all (rs := [14]) (by kernel_rfl) (by simp) ?_
        intro i hi; obtain rfl : i = 14 := by simpa using hi
        refine wpOp_step rfl (fun K hK => ?_)
        rw [if_pos (by kernel_rfl)]
        go_simp
        obtain ⟨u3, hy⟩ : ∃ y_, y_ = u2.alloc (Obj.cells #[.int .i64 0, .slice none 0 0] 26) := ⟨_, rfl⟩
        have kq : Below u2.heap.size u2 u3 := by rw [hy]; exact below_new _
        have jO1 : ∀ g_, (Value.slice a1 M.length c1).ownBlock = some g_ → g_ ≠ u2.heap.size := fun g_ e => by have h1 := (O1.lt g_ e).2; omega
        have jO2 : ∀ g_, (Value.slice a2 N.length c2).ownBlock = some g_ → g_ ≠ u2.heap.size := fun g_ e => by have h1 := (O2.lt g_ e).2; omega
        have jQ2 : ∀ g_, (Value.slice o2 D.length d2).ownBlock = some g_ → g_ ≠ u2.heap.size := fun g_ e => by have h1 := (Q2.lt g_ e).2; omega
        have O1 := O1.later kq
        have O2 := O2.later kq
        have Q2 := Q2.later kq
        have FP : BBox u3 u2.heap.size 0 (.slice none 0 0) := by rw [hy]; exact BBox.new u2 _ _ _
        have pa : w.heap.size ≤ u2.heap.size := hb2.size
        have hb3 : Below w.heap.size w u3 := hb2.trans (kq.mono hb2.size)
        rw [← hy]
        clear hy kq
        refine hK _ _ ⟨hb3, ?_⟩
        clear hK K hi
        refine wpAnyH_all (rs := [15]) (by kernel_rfl) (by simp) ?_
        intro i hi; obtain rfl : i = 15 := by simpa using hi
        refine wpOp_step rfl (fun K hK => ?_)
        rw [if_pos (by kernel_rfl)]
        have FQ := FP
        obtain ⟨⟨t0, t1⟩, tf⟩ := FP
        go_simp
        clear t0 t1 tf
        obtain ⟨uf, huf⟩ : ∃ y_, y_ = (u3.setCell ⟨u2.heap.size, 0, none⟩ (.int .i64 I)).setCell ⟨u2.heap.size, 1, none⟩ (.slice a2 N.length c2) := ⟨_, rfl⟩
        have FE : BBox uf (u2.heap.size) I (.slice a2 N.length c2) := by rw [huf]; exact FQ.put _ _
        have hbf : Below w.heap.size w uf := by rw [huf]; exact (hb3.setCell (p := ⟨u2.heap.size, 0, none⟩) pa _).setCell (p := ⟨u2.heap.size, 1, none⟩) pa _
        have O1 := O1.keep (w' := uf) (fun g_ e => by rw [huf, Below.heap_setCell _ _ _ _ (by show g_ ≠ u2.heap.size; exact jO1 g_ e), Below.heap_setCell _ _ _ _ (by show g_ ≠ u2.heap.size; exact jO1 g_ e)])
        have O2 := O2.keep (w' := uf) (fun g_ e => by rw [huf, Below.heap_setCell _ _ _ _ (by show g_ ≠ u2.heap.size; exact jO2 g_ e), Below.heap_setCell _ _ _ _ (by show g_ ≠ u2.heap.size; exact jO2 g_ e)])
        have Q2 := Q2.keep (w' := uf) (fun g_ e => by rw [huf, Below.heap_setCell _ _ _ _ (by show g_ ≠ u2.heap.size; exact jQ2 g_ e), Below.heap_setCell _ _ _ _ (by show g_ ≠ u2.heap.size; exact jQ2 g_ e)])
        rw [← huf]
        clear huf FQ
        refine hK _ _ ⟨hbf, ?_⟩
        clear hK K hi
        refine takeW 16 10 (.slice o2 D.length d2) rfl rfl (by kernel_rfl) (by kernel_rfl) (by kernel_rfl) (fun _ _ _ h => h) (by kernel_rfl) (by (intro w hSw; go_simp)) (by assumption) ?_
        simp only [List.set_cons_zero, List.set_cons_succ]
        refine wpAnyH_done (by kernel_rfl) ?_ _
        have QZ := Q2.base bb
        go_wp2
        go_ret
        exact ⟨o2, d2, rfl, QZ, hbf⟩
      · refine wpOp_step rfl (fun K hK => ?_)
        rw [if_pos (by kernel_rfl)]
        go_simp
        obtain ⟨u2, hy⟩ : ∃ y_, y_ = u1.alloc (Obj.cells #[.int .i64 0, .slice none 0 0] 26) := ⟨_, rfl⟩
        have kq : Below u1.heap.size u1 u2 := by rw [hy]; exact below_new _
        have jO1 : ∀ g_, (Value.slice a1 M.length c1).ownBlock = some g_ → g_ ≠ u1.heap.size := fun g_ e => by have h1 := (O1.lt g_ e).2; omega
        have O1 := O1.later kq
        have FP : BBox u2 u1.heap.size 0 (.slice none 0 0) := by rw [hy]; exact BBox.new u1 _ _ _
        have pa : w.heap.size ≤ u1.heap.size := hb1.size
        have hb2 : Below w.heap.size w u2 := hb1.trans (kq.mono hb1.size)
        rw [← hy]
        clear hy kq
        refine hK _ _ ⟨hb2, ?_⟩
        clear hK K hi
        refine wpAnyH_all (rs := [10]) (by kernel_rfl) (by simp) ?_
        intro i hi; obtain rfl : i = 10 := by simpa using hi
        refine wpOp_step rfl (fun K hK => ?_)
        rw [if_pos (by kernel_rfl)]
        go_simp
        go_at_call 12
        refine (reactS I a1 c1 M x u2 O1.view.2 (by omega) O1.capn).mono ?_
        have bb : w.heap.size ≤ u2.heap.size := hb2.size
        rintro e u3 ⟨a2, c2, o2, d2, rfl, O2, Q2, _, kq⟩
        rw [hN.out] at O2 ⊢
        rw [hS.out] at Q2 ⊢
        have jO2 : ∀ g_, (Value.slice a2 N.length c2).ownBlock = some g_ → g_ ≠ u1.heap.size := fun g_ e => by have h1 := (O2.lt g_ e).1; have h2 := FP.lt; omega
        have jQ2 : ∀ g_, (Value.slice o2 D.length d2).ownBlock = some g_ → g_ ≠ u1.heap.size := fun g_ e => by have h1 := (Q2.lt g_ e).1; have h2 := FP.lt; omega
        have O1 := O1.later kq
        have FP := FP.below kq FP.lt
        have hb3 : Below w.heap.size w u3 := hb2.trans (kq.mono hb2.size)
        clear kq
        refine hK _ _ ⟨hb3, ?_⟩
        clear hK K hi
        refine takeW 11 18 (.tuple #[.agg #[.int .i64 I, .slice a2 N.length c2], .slice o2 D.length d2]) rfl rfl (by kernel_rfl) (by kernel_rfl) (by kernel_rfl) (fun _ _ _ h => h) (by kernel_rfl) (by (intro w hSw; go_simp)) (by assumption) ?_
        simp only [List.set_cons_zero, List.set_cons_succ]
        refine takeW 12 30 (.agg #[.int .i64 I, .slice a2 N.length c2]) rfl rfl (by kernel_rfl) (by kernel_rfl) (by kernel_rfl) (fun _ _ _ h => h) (by kernel_rfl) (by (intro w hSw; go_simp)) (by assumption) ?_
        simp only [List.set_cons_zero, List.set_cons_succ]
        refine takeW 13 31 (.slice o2 D.length d2) rfl rfl (by kernel_rfl) (by kernel_rfl) (by kernel_rfl) (fun _ _ _ h => h) (by kernel_rfl) (by (intro w hSw; go_simp)) (by assumption) ?_
        simp only [List.set_cons_zero, List.set_cons_succ]
        refine wpAnyH_all (rs := [15]) (by kernel_rfl) (by simp) ?_
        intro i hi; obtain rfl : i = 15 := by simpa using hi
        refine wpOp_step rfl (fun K hK => ?_)
        rw [if_pos (by kernel_rfl)]
        have FQ := FP
        obtain ⟨⟨t0, t1⟩, tf⟩ := FP
        go_simp
        clear t0 t1 tf
        obtain ⟨uf, huf⟩ : ∃ y_, y_ = (u3.setCell ⟨u1.heap.size, 0, none⟩ (.int .i64 I)).setCell ⟨u1.heap.size, 1, none⟩ (.slice a2 N.length c2) := ⟨_, rfl⟩
        have FE : BBox uf (u1.heap.size) I (.slice a2 N.length c2) := by rw [huf]; exact FQ.put _ _
        have hbf : Below w.heap.size w uf := by rw [huf]; exact (hb3.setCell (p := ⟨u1.heap.size, 0, none⟩) pa _).setCell (p := ⟨u1.heap.size, 1, none⟩) pa _
        have O1 := O1.keep (w' := uf) (fun g_ e => by rw [huf, Below.heap_setCell _ _ _ _ (by show g_ ≠ u1.heap.size; exact jO1 g_ e), Below.heap_setCell _ _ _ _ (by show g_ ≠ u1.heap.size; exact jO1 g_ e)])
        have O2 := O2.keep (w' := uf) (fun g_ e => by rw [huf, Below.heap_setCell _ _ _ _ (by show g_ ≠ u1.heap.size; exact jO2 g_ e), Below.heap_setCell _ _ _ _ (by show g_ ≠ u1.heap.size; exact jO2 g_ e)])
        have Q2 := Q2.keep (w' := uf) (fun g_ e => by rw [huf, Below.heap_setCell _ _ _ _ (by show g_ ≠ u1.heap.size; exact jQ2 g_ e), Below.heap_setCell _ _ _ _ (by show g_ ≠ u1.heap.size; exact jQ2 g_ e)])
        rw [← huf]
        clear huf FQ
        refine hK _ _ ⟨hbf, ?_⟩
        clear hK K hi
        refine takeW 16 10 (.slice o2 D.length d2) rfl rfl (by kernel_rfl) (by kernel_rfl) (by kernel_rfl) (fun _ _ _ h => h) (by kernel_rfl) (by (intro w hSw; go_simp)) (by assumption) ?_
        simp only [List.set_cons_zero, List.set_cons_succ]
        refine wpAnyH_done (by kernel_rfl) ?_ _
        have QZ := Q2.base bb
        go_wp2
        go_ret
        exact ⟨o2, d2, rfl, QZ, hbf⟩
    · refine wpOp_step rfl (fun K hK => ?_)
      rw [if_pos (by kernel_rfl)]
      go_simp
      obtain ⟨u1, hy⟩ : ∃ y_, y_ = u0.alloc (Obj.cells #[.int .i64 0, .slice none 0 0] 26) := ⟨_, rfl⟩
      have kq : Below u0.heap.size u0 u1 := by rw [hy]; exact below_new _
      have FP : BBox u1 u0.heap.size 0 (.slice none 0 0) := by rw [hy]; exact BBox.new u0 _ _ _
      have pa : w.heap.size ≤ u0.heap.size := hb0.size
      have hb1 : Below w.heap.size w u1 := hb0.trans (kq.mono hb0.size)
      rw [← hy]
      clear hy kq
      refine hK _ _ ⟨hb1, ?_⟩
      clear hK K hi
      refine wpAnyH_all (rs := [5]) (by kernel_rfl) (by simp) ?_
      intro i hi; obtain rfl : i = 5 := by simpa using hi
      refine wpOp_step rfl (fun K hK => ?_)
      rw [if_pos (by kernel_rfl)]
      go_simp
      go_at_call 18
      refine (show Calls _ _ _ _ _ by have h_ := bofS id n (some ⟨b, off, none⟩) cap (X.take k) u1 (hvT.below hb1 (fun a e _ => by cases e; exact hcB)) (by rw [hkl.out]; omega); rw [hkl.out] at h_; exact h_).mono ?_
      rintro e u2 ⟨a1, c1, rfl, O1, kq⟩
      rw [hM.out] at O1 ⊢
      rw [hI.out]
      have jO1 : ∀ g_, (Value.slice a1 M.length c1).ownBlock = some g_ → g_ ≠ u0.heap.size := fun g_ e => by have h1 := (O1.lt g_ e).1; have h2 := FP.lt; omega
      have FP := FP.below kq FP.lt
      have hb2 : Below w.heap.size w u2 := hb1.trans (kq.mono hb1.size)
      clear kq
      refine hK _ _ ⟨hb2, ?_⟩
      clear hK K hi
      refine wpAnyH_all (rs := [10]) (by kernel_rfl) (by simp) ?_
      intro i hi; obtain rfl : i = 10 := by simpa using hi
      refine wpOp_step rfl (fun K hK => ?_)
      rw [if_pos (by kernel_rfl)]
      go_simp
      go_at_call 12
      refine (reactS I a1 c1 M x u2 O1.view.2 (by omega) O1.capn).mono ?_
      have bb : w.heap.size ≤ u2.heap.size := hb2.size
      rintro e u3 ⟨a2, c2, o2, d2, rfl, O2, Q2, _, kq⟩
      rw [hN.out] at O2 ⊢
      rw [hS.out] at Q2 ⊢
      have jO2 : ∀ g_, (Value.slice a2 N.length c2).ownBlock = some g_ → g_ ≠ u0.heap.size := fun g_ e => by have h1 := (O2.lt g_ e).1; have h2 := FP.lt; omega
      have jQ2 : ∀ g_, (Value.slice o2 D.length d2).ownBlock = some g_ → g_ ≠ u0.heap.size := fun g_ e => by have h1 := (Q2.lt g_ e).1; have h2 := FP.lt; omega
      have O1 := O1.later kq
      have FP := FP.below kq FP.lt
      have hb3 : Below w.heap.size w u3 := hb2.trans (kq.mono hb2.size)
      clear kq
      refine hK _ _ ⟨hb3, ?_⟩
      clear hK K hi
      refine takeW 11 18 (.tuple #[.agg #[.int .i64 I, .slice a2 N.length c2], .slice o2 D.length d2]) rfl rfl (by kernel_rfl) (by kernel_rfl) (by kernel_rfl) (fun _ _ _ h => h) (by kernel_rfl) (by (intro w hSw; go_simp)) (by assumption) ?_
      simp only [List.set_cons_zero, List.set_cons_succ]
      refine takeW 12 30 (.agg #[.int .i64 I, .slice a2 N.length c2]) rfl rfl (by kernel_rfl) (by kernel_rfl) (by kernel_rfl) (fun _ _ _ h => h) (by kernel_rfl) (by (intro w hSw; go_simp)) (by assumption) ?_
      simp only [List.set_cons_zero, List.set_cons_succ]
      refine takeW 13 31 (.slice o2 D.length d2) rfl rfl (by kernel_rfl) (by kernel_rfl) (by kernel_rfl) (fun _ _ _ h => h) (by kernel_rfl) (by (intro w hSw; go_simp)) (by assumption) ?_
      simp only [List.set_cons_zero, List.set_cons_succ]
      refine wpAnyH_all (rs := [15]) (by kernel_rfl) (by simp) ?_
      intro i hi; obtain rfl : i = 15 := by simpa using hi
      refine wpOp_step rfl (fun K hK => ?_)
      rw [if_pos (by kernel_rfl)]
      have FQ := FP
      obtain ⟨⟨t0, t1⟩, tf⟩ := FP
      go_simp
      clear t0 t1 tf
      obtain ⟨uf, huf⟩ : ∃ y_, y_ = (u3.setCell ⟨u0.heap.size, 0, none⟩ (.int .i64 I)).setCell ⟨u0.heap.size, 1, none⟩ (.slice a2 N.length c2) := ⟨_, rfl⟩
      have FE : BBox uf (u0.heap.size) I (.slice a2 N.length c2) := by rw [huf]; exact FQ.put _ _
      have hbf : Below w.heap.size w uf := by rw [huf]; exact (hb3.setCell (p := ⟨u0.heap.size, 0, none⟩) pa _).setCell (p := ⟨u0.heap.size, 1, none⟩) pa _
      have O1 := O1.keep (w' := uf) (fun g_ e => by rw [huf, Below.heap_setCell _ _ _ _ (by show g_ ≠ u0.heap.size; exact jO1 g_ e), Below.heap_setCell _ _ _ _ (by show g_ ≠ u0.heap.size; exact jO1 g_ e)])
      have O2 := O2.keep (w' := uf) (fun g_ e => by rw [huf, Below.heap_setCell _ _ _ _ (by show g_ ≠ u0.heap.size; exact jO2 g_ e), Below.heap_setCell _ _ _ _ (by show g_ ≠ u0.heap.size; exact jO2 g_ e)])
      have Q2 := Q2.keep (w' := uf) (fun g_ e => by rw [huf, Below.heap_setCell _ _ _ _ (by show g_ ≠ u0.heap.size; exact jQ2 g_ e), Below.heap_setCell _ _ _ _ (by show g_ ≠ u0.heap.size; exact jQ2 g_ e)])
      rw [← huf]
      clear huf FQ
      refine hK _ _ ⟨hbf, ?_⟩
      clear hK K hi
      refine takeW 16 10 (.slice o2 D.length d2) rfl rfl (by kernel_rfl) (by kernel_rfl) (by kernel_rfl) (fun _ _ _ h => h) (by kernel_rfl) (by (intro w hSw; go_simp)) (by assumption) ?_
      simp only [List.set_cons_zero, List.set_cons_succ]
      refine wpAnyH_done (by kernel_rfl) ?_ _
      have QZ := Q2.base bb
      go_wp2
      go_ret
      exact ⟨o2, d2, rfl, QZ, hbf⟩
  · have d0 : decide (0 ≤ i ∧ i ≤ (X.length : Int) - 1) = false := decide_eq_false h0
    have hD : sayR id n X i = [] := by unfold sayR sayL; rw [if_neg (by omega)]
    rw [hD]
    clear hD
    have O0 : FOwn ouEnc 8 38 w.heap.size (w.alloc (Obj.cells #[] 38)) (.slice (some ⟨w.heap.size, 0, none⟩) 0 0) ([] : List Ou) := FOwn.empty w
    have B0 := below_new (w := w) (Obj.cells #[] 38)
    go_enter Try.func22, Try.ntmps22
    go_wp2_with fail
    go_at_call 72
    refine (inB i 0 ((X.length : Int) - 1) w).mono ?_
    rintro e w_ ⟨rfl, hw_⟩
    rw [d0, hw_]
    clear d0 h0 hw_
    go_wp2
    go_ret
    exact ⟨_, _, rfl, O0, B0⟩

end Go.Proofs.Ytghmmcenjdbfgaa
namespace Go.Proofs.Ytghmmcenjdbfgaa
open Go.ChangeShapes Go.WideShapes Go.ChangeAt Go.RowKit
open Go.ChangeMaps (open_string shut_string)
set_option linter.unusedVariables false
set_option maxRecDepth 100000

theorem inIn_open {H : Type} {enc : TypeId × Value → H} {w : World} {r : Reach} {b0 : Nat} {v : Value} {d : DataW H} {p : List MemPlace} (hv : Value.okWide Try.prog w r b0 124 v) (h : DataW.Trod enc Try.prog w 0 (fun _ => true) true 124 v d p) :
    ∃ x : Ik, v = .agg #[.int .i64 x.k, .int .i64 x.q, .int .i64 x.r, .int .i64 x.c, .int .i64 x.b, .int .i64 x.p, .int .i64 x.h, .bool x.up] ∧ True := by
  obtain ⟨cs, rfl, hsz⟩ := okWide_struct Try.underlying124 hv
  rw [(by kernel_rfl : Try.prog.cellsOf 124 = 8)] at hsz
  obtain ⟨cs⟩ := cs
  obtain ⟨fuel, hf0⟩ := h
  simp only [Value.cells] at hf0
  have hlen : cs.length = 8 := by simpa using hsz
  obtain ⟨xs, k, hk, hxy, _, hxl, hf⟩ := DataW.trod_struct Try.underlying124 hf0
  match xs, hxl, cs, hlen with
  | [y0, y1, y2, y3, y4], _, [c0, c1, c2, c3, c4, c5, c6, c7], _ =>
    have g0 : DataW.trod enc Try.prog w 0 (fun _ => true) true k 3 ((List.drop 0 [c0, c1, c2, c3, c4, c5, c6, c7]).take (Try.prog.cellsOf 3)) = some y0 := hf 0 _ rfl
    rw [(by kernel_rfl : Try.prog.cellsOf 3 = 1)] at g0
    have g1 : DataW.trod enc Try.prog w 0 (fun _ => true) true k 3 ((List.drop 1 [c0, c1, c2, c3, c4, c5, c6, c7]).take (Try.prog.cellsOf 3)) = some y1 := hf 1 _ rfl
    rw [(by kernel_rfl : Try.prog.cellsOf 3 = 1)] at g1
    have g2 : DataW.trod enc Try.prog w 0 (fun _ => true) true k 122 ((List.drop 2 [c0, c1, c2, c3, c4, c5, c6, c7]).take (Try.prog.cellsOf 122)) = some y2 := hf 2 _ rfl
    rw [(by kernel_rfl : Try.prog.cellsOf 122 = 4)] at g2
    have g3 : DataW.trod enc Try.prog w 0 (fun _ => true) true k 3 ((List.drop 6 [c0, c1, c2, c3, c4, c5, c6, c7]).take (Try.prog.cellsOf 3)) = some y3 := hf 3 _ rfl
    rw [(by kernel_rfl : Try.prog.cellsOf 3 = 1)] at g3
    have g4 : DataW.trod enc Try.prog w 0 (fun _ => true) true k 4 ((List.drop 7 [c0, c1, c2, c3, c4, c5, c6, c7]).take (Try.prog.cellsOf 4)) = some y4 := hf 4 _ rfl
    rw [(by kernel_rfl : Try.prog.cellsOf 4 = 1)] at g4
    obtain ⟨us, k2, hk2, hxy2, _, hul, hg⟩ := DataW.trod_struct Try.underlying122 g2
    match us, hul with
    | [u0, u1, u2, u3], _ =>
      have q0 : DataW.trod enc Try.prog w 0 (fun _ => true) true k2 3 ((List.drop 0 [c2, c3, c4, c5]).take (Try.prog.cellsOf 3)) = some u0 := hg 0 _ rfl
      rw [(by kernel_rfl : Try.prog.cellsOf 3 = 1)] at q0
      have q1 : DataW.trod enc Try.prog w 0 (fun _ => true) true k2 3 ((List.drop 1 [c2, c3, c4, c5]).take (Try.prog.cellsOf 3)) = some u1 := hg 1 _ rfl
      rw [(by kernel_rfl : Try.prog.cellsOf 3 = 1)] at q1
      have q2 : DataW.trod enc Try.prog w 0 (fun _ => true) true k2 3 ((List.drop 2 [c2, c3, c4, c5]).take (Try.prog.cellsOf 3)) = some u2 := hg 2 _ rfl
      rw [(by kernel_rfl : Try.prog.cellsOf 3 = 1)] at q2
      have q3 : DataW.trod enc Try.prog w 0 (fun _ => true) true k2 3 ((List.drop 3 [c2, c3, c4, c5]).take (Try.prog.cellsOf 3)) = some u3 := hg 3 _ rfl
      rw [(by kernel_rfl : Try.prog.cellsOf 3 = 1)] at q3
      obtain ⟨z0, e0, _, _⟩ := DataW.trod_int Try.underlying3 g0
      obtain ⟨z1, e1, _, _⟩ := DataW.trod_int Try.underlying3 g1
      obtain ⟨z2, e2, _, _⟩ := DataW.trod_int Try.underlying3 q0
      obtain ⟨z3, e3, _, _⟩ := DataW.trod_int Try.underlying3 q1
      obtain ⟨z4, e4, _, _⟩ := DataW.trod_int Try.underlying3 q2
      obtain ⟨z5, e5, _, _⟩ := DataW.trod_int Try.underlying3 q3
      obtain ⟨z6, e6, _, _⟩ := DataW.trod_int Try.underlying3 g3
      obtain ⟨z7, e7, _⟩ := DataW.trod_bool Try.underlying4 g4
      simp at e0 e1 e2 e3 e4 e5 e6 e7
      subst e0 e1 e2 e3 e4 e5 e6 e7
      exact ⟨⟨z0, z1, z2, z3, z4, z5, z6, z7⟩, rfl, trivial⟩
set_option maxHeartbeats 2000000 in
theorem toInI (x : Ik) (w : World) : Calls Try.prog 83 #[.agg #[.int .i64 x.k, .int .i64 x.q, .int .i64 x.r, .int .i64 x.c, .int .i64 x.b, .int .i64 x.p, .int .i64 x.h, .bool x.up]] w fun e w' => e = .returned (.agg #[.int .i64 x.k, .int .i64 x.q, .int .i64 x.r, .int .i64 x.c, .int .i64 x.b, .int .i64 x.p, .int .i64 x.h, .bool x.up]) ∧ Below w.heap.size w w' := by
  obtain ⟨w0, hw0⟩ : ∃ w0, w0 = ((w.alloc (Obj.cells #[.int .i64 x.k, .int .i64 x.q, .int .i64 x.r, .int .i64 x.c, .int .i64 x.b, .int .i64 x.p, .int .i64 x.h, .bool x.up] 124)).alloc (Obj.cells #[.int .i64 0, .int .i64 0, .int .i64 0, .int .i64 0, .int .i64 0, .int .i64 0, .int .i64 0, .bool false] 30)).alloc (Obj.cells #[.int .i64 x.k, .int .i64 x.q, .int .i64 0, .int .i64 0, .int .i64 0, .int .i64 0, .int .i64 0, .bool false] 30) := ⟨_, rfl⟩
  have b0 : Below w.heap.size w w0 := by rw [hw0]; exact (((Below.refl _ _).alloc (Nat.le_refl _) _).alloc (by simp) _).alloc (by simp; omega) _
  have P0 : InAt w0 w.heap.size x := by rw [hw0]; constructor <;> simp [go_sem]
  have Q0 : InAt w0 (w.heap.size + 1) ⟨0, 0, 0, 0, 0, 0, 0, false⟩ := by rw [hw0]; constructor <;> simp [go_sem]
  have R0 : InAt w0 (w.heap.size + 1 + 1) ⟨x.k, x.q, 0, 0, 0, 0, 0, false⟩ := by rw [hw0]; constructor <;> simp [go_sem]
  have QF : ∀ i, w0.frozen? ⟨w.heap.size + 1, i, none⟩ = false := fun i => by rw [hw0]; simp [go_sem]
  have RF : ∀ i, w0.frozen? ⟨w.heap.size + 1 + 1, i, none⟩ = false := fun i => by rw [hw0]; simp [go_sem]
  have S0 := R0.lt
  go_enter Try.func83, Try.ntmps83
  go_wp2_with fail
  go_at_call 117
  rw [← hw0]
  clear hw0
  refine (toV x.r x.c x.b x.p w0).mono ?_
  rintro e w1 ⟨rfl, k1⟩
  have b1 := b0.trans (k1.mono b0.size)
  obtain ⟨p0, p1, p2, p3, p4, p5, p6, p7⟩ := P0.below k1 (by omega)
  obtain ⟨r0, r1, r2, r3, r4, r5, r6, r7⟩ := R0.below k1 (by omega)
  obtain ⟨q0, q1, q2, q3, q4, q5, q6, q7⟩ := Q0.below k1 (by omega)
  have qf0 : w1.frozen? ⟨w.heap.size + 1, 0, none⟩ = false := (World.frozen?_of_block (a := ⟨w.heap.size + 1, 0, none⟩) (k1.block (w.heap.size + 1) (by omega))).trans (QF 0)
  have rf0 : w1.frozen? ⟨w.heap.size + 1 + 1, 0, none⟩ = false := (World.frozen?_of_block (a := ⟨w.heap.size + 1 + 1, 0, none⟩) (k1.block (w.heap.size + 1 + 1) (by omega))).trans (RF 0)
  have qf1 : w1.frozen? ⟨w.heap.size + 1, 1, none⟩ = false := (World.frozen?_of_block (a := ⟨w.heap.size + 1, 1, none⟩) (k1.block (w.heap.size + 1) (by omega))).trans (QF 1)
  have rf1 : w1.frozen? ⟨w.heap.size + 1 + 1, 1, none⟩ = false := (World.frozen?_of_block (a := ⟨w.heap.size + 1 + 1, 1, none⟩) (k1.block (w.heap.size + 1 + 1) (by omega))).trans (RF 1)
  have qf2 : w1.frozen? ⟨w.heap.size + 1, 2, none⟩ = false := (World.frozen?_of_block (a := ⟨w.heap.size + 1, 2, none⟩) (k1.block (w.heap.size + 1) (by omega))).trans (QF 2)
  have rf2 : w1.frozen? ⟨w.heap.size + 1 + 1, 2, none⟩ = false := (World.frozen?_of_block (a := ⟨w.heap.size + 1 + 1, 2, none⟩) (k1.block (w.heap.size + 1 + 1) (by omega))).trans (RF 2)
  have qf3 : w1.frozen? ⟨w.heap.size + 1, 3, none⟩ = false := (World.frozen?_of_block (a := ⟨w.heap.size + 1, 3, none⟩) (k1.block (w.heap.size + 1) (by omega))).trans (QF 3)
  have rf3 : w1.frozen? ⟨w.heap.size + 1 + 1, 3, none⟩ = false := (World.frozen?_of_block (a := ⟨w.heap.size + 1 + 1, 3, none⟩) (k1.block (w.heap.size + 1 + 1) (by omega))).trans (RF 3)
  have qf4 : w1.frozen? ⟨w.heap.size + 1, 4, none⟩ = false := (World.frozen?_of_block (a := ⟨w.heap.size + 1, 4, none⟩) (k1.block (w.heap.size + 1) (by omega))).trans (QF 4)
  have rf4 : w1.frozen? ⟨w.heap.size + 1 + 1, 4, none⟩ = false := (World.frozen?_of_block (a := ⟨w.heap.size + 1 + 1, 4, none⟩) (k1.block (w.heap.size + 1 + 1) (by omega))).trans (RF 4)
  have qf5 : w1.frozen? ⟨w.heap.size + 1, 5, none⟩ = false := (World.frozen?_of_block (a := ⟨w.heap.size + 1, 5, none⟩) (k1.block (w.heap.size + 1) (by omega))).trans (QF 5)
  have rf5 : w1.frozen? ⟨w.heap.size + 1 + 1, 5, none⟩ = false := (World.frozen?_of_block (a := ⟨w.heap.size + 1 + 1, 5, none⟩) (k1.block (w.heap.size + 1 + 1) (by omega))).trans (RF 5)
  have qf6 : w1.frozen? ⟨w.heap.size + 1, 6, none⟩ = false := (World.frozen?_of_block (a := ⟨w.heap.size + 1, 6, none⟩) (k1.block (w.heap.size + 1) (by omega))).trans (QF 6)
  have rf6 : w1.frozen? ⟨w.heap.size + 1 + 1, 6, none⟩ = false := (World.frozen?_of_block (a := ⟨w.heap.size + 1 + 1, 6, none⟩) (k1.block (w.heap.size + 1 + 1) (by omega))).trans (RF 6)
  have qf7 : w1.frozen? ⟨w.heap.size + 1, 7, none⟩ = false := (World.frozen?_of_block (a := ⟨w.heap.size + 1, 7, none⟩) (k1.block (w.heap.size + 1) (by omega))).trans (QF 7)
  have rf7 : w1.frozen? ⟨w.heap.size + 1 + 1, 7, none⟩ = false := (World.frozen?_of_block (a := ⟨w.heap.size + 1 + 1, 7, none⟩) (k1.block (w.heap.size + 1 + 1) (by omega))).trans (RF 7)
  clear P0 R0 Q0 QF RF k1 b0
  go_wp2
  refine bodyPost_ret (v := .agg #[.int .i64 x.k, .int .i64 x.q, .int .i64 x.r, .int .i64 x.c, .int .i64 x.b, .int .i64 x.p, .int .i64 x.h, .bool x.up]) (by simp [results, Try.results83, go_sem, *]) rfl ⟨rfl, ?_⟩
  repeat' (first | with_reducible exact b1 | refine Below.setCell ?_ (by first | (show _ ≤ w.heap.size + 1; omega) | (show _ ≤ w.heap.size + 1 + 1; omega)) _)

end Go.Proofs.Ytghmmcenjdbfgaa
namespace Go.Proofs.Ytghmmcenjdbfgaa
open Go.ChangeShapes Go.WideShapes Go.ChangeAt Go.RowKit
open Go.ChangeMaps (open_string shut_string)
set_option linter.unusedVariables false
set_option maxRecDepth 100000

set_option maxRecDepth 100000 in
theorem ikRow_open {H : Type} {enc : TypeId × Value → H} {w : World} {n0 : Nat} {v : Value} {x : DataW H × List MemPlace} (hn : DataW.trod enc Try.prog w 0 (fun _ => true) true n0 66 [v] = some x) :
    ∃ ad cap L, v = .slice ad L.length cap ∧ L.length ≤ maxLen ∧ FView ikEnc w ad L ∧ (ad = none → cap = 0) := by
  have hs := Go.Deep.open_slice Try.underlying66 hn
  have hcell : ∀ x, [v] = [x] → v = x := fun x h => by simpa using h
  rcases hs with ⟨hcs, _⟩ | ⟨a, len, cap, m, n, D, Pl, hcs, _, hl, hm, hmm, _, hx⟩
  · exact ⟨none, 0, [], hcell _ hcs, by simp, FView.nil, fun _ => rfl⟩
  · simp at hmm
    subst hmm
    have each : ∀ i, i < m → ∃ q : Ik, w.cell? (a.add (i * 8)) = some (.int .i64 q.k) ∧ w.cell? (a.add (i * 8 + 1)) = some (.int .i64 q.q) ∧ w.cell? (a.add (i * 8 + 2)) = some (.int .i64 q.r) ∧ w.cell? (a.add (i * 8 + 3)) = some (.int .i64 q.c) ∧ w.cell? (a.add (i * 8 + 4)) = some (.int .i64 q.b) ∧ w.cell? (a.add (i * 8 + 5)) = some (.int .i64 q.p) ∧ w.cell? (a.add (i * 8 + 6)) = some (.int .i64 q.h) ∧ w.cell? (a.add (i * 8 + 7)) = some (.bool q.up) := by
      intro i hi
      obtain ⟨cs', h1, h2⟩ := hx i hi
      rw [(by kernel_rfl : Try.prog.cellsOf 124 = 8)] at h1
      obtain ⟨_, hlen, hc⟩ := World.cells?_some h1
      obtain ⟨xs, k, hk, hxy, _, hxl, hf⟩ := DataW.trod_struct Try.underlying124 h2
      match xs, hxl, cs', hlen with
      | [y0, y1, y2, y3, y4], _, [c0, c1, c2, c3, c4, c5, c6, c7], _ =>
        have g0 : DataW.trod enc Try.prog w 0 (fun _ => true) true k 3 ((List.drop 0 [c0, c1, c2, c3, c4, c5, c6, c7]).take (Try.prog.cellsOf 3)) = some y0 := hf 0 _ rfl
        rw [(by kernel_rfl : Try.prog.cellsOf 3 = 1)] at g0
        have g1 : DataW.trod enc Try.prog w 0 (fun _ => true) true k 3 ((List.drop 1 [c0, c1, c2, c3, c4, c5, c6, c7]).take (Try.prog.cellsOf 3)) = some y1 := hf 1 _ rfl
        rw [(by kernel_rfl : Try.prog.cellsOf 3 = 1)] at g1
        have g2 : DataW.trod enc Try.prog w 0 (fun _ => true) true k 122 ((List.drop 2 [c0, c1, c2, c3, c4, c5, c6, c7]).take (Try.prog.cellsOf 122)) = some y2 := hf 2 _ rfl
        rw [(by kernel_rfl : Try.prog.cellsOf 122 = 4)] at g2
        have g3 : DataW.trod enc Try.prog w 0 (fun _ => true) true k 3 ((List.drop 6 [c0, c1, c2, c3, c4, c5, c6, c7]).take (Try.prog.cellsOf 3)) = some y3 := hf 3 _ rfl
        rw [(by kernel_rfl : Try.prog.cellsOf 3 = 1)] at g3
        have g4 : DataW.trod enc Try.prog w 0 (fun _ => true) true k 4 ((List.drop 7 [c0, c1, c2, c3, c4, c5, c6, c7]).take (Try.prog.cellsOf 4)) = some y4 := hf 4 _ rfl
        rw [(by kernel_rfl : Try.prog.cellsOf 4 = 1)] at g4
        obtain ⟨us2, k2, hk2, hxy2, _, hul2, hg2⟩ := DataW.trod_struct Try.underlying122 g2
        match us2, hul2 with
        | [u2_0, u2_1, u2_2, u2_3], _ =>
          have q2_0 : DataW.trod enc Try.prog w 0 (fun _ => true) true k2 3 ((List.drop 0 [c2, c3, c4, c5]).take (Try.prog.cellsOf 3)) = some u2_0 := hg2 0 _ rfl
          rw [(by kernel_rfl : Try.prog.cellsOf 3 = 1)] at q2_0
          have q2_1 : DataW.trod enc Try.prog w 0 (fun _ => true) true k2 3 ((List.drop 1 [c2, c3, c4, c5]).take (Try.prog.cellsOf 3)) = some u2_1 := hg2 1 _ rfl
          rw [(by kernel_rfl : Try.prog.cellsOf 3 = 1)] at q2_1
          have q2_2 : DataW.trod enc Try.prog w 0 (fun _ => true) true k2 3 ((List.drop 2 [c2, c3, c4, c5]).take (Try.prog.cellsOf 3)) = some u2_2 := hg2 2 _ rfl
          rw [(by kernel_rfl : Try.prog.cellsOf 3 = 1)] at q2_2
          have q2_3 : DataW.trod enc Try.prog w 0 (fun _ => true) true k2 3 ((List.drop 3 [c2, c3, c4, c5]).take (Try.prog.cellsOf 3)) = some u2_3 := hg2 3 _ rfl
          rw [(by kernel_rfl : Try.prog.cellsOf 3 = 1)] at q2_3
          obtain ⟨z0, e0, _, _⟩ := DataW.trod_int Try.underlying3 g0
          obtain ⟨z1, e1, _, _⟩ := DataW.trod_int Try.underlying3 g1
          obtain ⟨z2, e2, _, _⟩ := DataW.trod_int Try.underlying3 q2_0
          obtain ⟨z3, e3, _, _⟩ := DataW.trod_int Try.underlying3 q2_1
          obtain ⟨z4, e4, _, _⟩ := DataW.trod_int Try.underlying3 q2_2
          obtain ⟨z5, e5, _, _⟩ := DataW.trod_int Try.underlying3 q2_3
          obtain ⟨z6, e6, _, _⟩ := DataW.trod_int Try.underlying3 g3
          obtain ⟨z7, e7, _⟩ := DataW.trod_bool Try.underlying4 g4
          simp at e0 e1 e2 e3 e4 e5 e6 e7
          subst e0 e1 e2 e3 e4 e5 e6 e7
          have k_0 := hc 0 (by omega)
          have k_1 := hc 1 (by omega)
          have k_2 := hc 2 (by omega)
          have k_3 := hc 3 (by omega)
          have k_4 := hc 4 (by omega)
          have k_5 := hc 5 (by omega)
          have k_6 := hc 6 (by omega)
          have k_7 := hc 7 (by omega)
          rw [Go.Deep.add_add] at k_0 k_1 k_2 k_3 k_4 k_5 k_6 k_7
          exact ⟨⟨z0, z1, z2, z3, z4, z5, z6, z7⟩, by simpa using k_0, by simpa using k_1, by simpa using k_2, by simpa using k_3, by simpa using k_4, by simpa using k_5, by simpa using k_6, by simpa using k_7⟩
    haveI : Inhabited Ik := ⟨Ik.nil⟩
    obtain ⟨q, hq⟩ := Go.Deep.choose_lt each
    refine ⟨some a, m, (List.range len).map q, by simpa using hcell _ hcs, by simpa using Nat.le_trans hl hm, fun hp => ?_, fun e => by cases e⟩
    simp at hp
    obtain ⟨b, off, spot⟩ := a
    have hspot : spot = none := by simpa [Addr.add] using World.cell?_spot (hq 0 (by omega)).1
    subst hspot
    refine ⟨b, off, rfl, fun j v hv => ?_⟩
    have hjl : j < len * 8 := by
      have := (List.getElem?_eq_some_iff.1 hv).1
      rw [fcells_len ikEnc_len] at this
      simpa using this
    have hi : j / 8 < len := by omega
    have hr : j % 8 < 8 := Nat.mod_lt _ (by omega)
    have e : j = j / 8 * 8 + j % 8 := by omega
    rw [e, fcells_at ikEnc_len Ik.nil _ _ _ (by simpa using hi) hr, show ((List.range len).map q).getD (j / 8) Ik.nil = q (j / 8) by simp [List.getD, hi]] at hv
    obtain ⟨k0, k1, k2, k3, k4, k5, k6, k7⟩ := hq (j / 8) (by omega)
    simp only [add_plain] at k0 k1 k2 k3 k4 k5 k6 k7
    rw [e]
    generalize j % 8 = r at hv hr
    have hcase : r = 0 ∨ r = 1 ∨ r = 2 ∨ r = 3 ∨ r = 4 ∨ r = 5 ∨ r = 6 ∨ r = 7 := by omega
    rcases hcase with rfl | rfl | rfl | rfl | rfl | rfl | rfl | rfl
    · cases hv; simpa [Nat.add_assoc] using k0
    · cases hv; simpa [Nat.add_assoc] using k1
    · cases hv; simpa [Nat.add_assoc] using k2
    · cases hv; simpa [Nat.add_assoc] using k3
    · cases hv; simpa [Nat.add_assoc] using k4
    · cases hv; simpa [Nat.add_assoc] using k5
    · cases hv; simpa [Nat.add_assoc] using k6
    · cases hv; simpa [Nat.add_assoc] using k7
theorem ikSz (ad : Option Addr) (len cap : Nat) (left : Int) (w : World) (h0 : 0 ≤ left) (h1 : left ≤ 1048576) (hm : len ≤ maxLen) :
    Calls Try.prog 39 #[.slice ad len cap, .int .i64 left] w fun e w' => e = .returned (.int .i64 (if (len : Int) ≤ left then left - len else -1)) ∧ w' = w := by
  unfold maxLen at hm
  by_cases h : (len : Int) ≤ left
  · rw [if_pos h]
    have h2 : 0 ≤ left - (len : Int) := by omega
    go_enter Try.func39, Try.ntmps39
    go_wp2
    go_ret
    exact ⟨rfl, rfl⟩
  · rw [if_neg h]
    have h2 : left - (len : Int) < 0 := by omega
    go_enter Try.func39, Try.ntmps39
    go_wp2
    go_ret
    exact ⟨rfl, rfl⟩
theorem ikInfo : (Try.prog.info? 30).map (fun i => (i.zero, i.size, i.bytes)) = some (some (.agg #[.int .i64 0, .int .i64 0, .int .i64 0, .int .i64 0, .int .i64 0, .int .i64 0, .int .i64 0, .bool false]), 8, 64) := by kernel_rfl
set_option maxHeartbeats 2000000 in
theorem ikToS (ad : Option Addr) (cap : Nat) (L : List Ik) (w : World) (hv : FView ikEnc w ad L) (hl : L.length ≤ 1048576) :
    Calls Try.prog 40 #[.slice ad L.length cap] w fun e w' => e = .returned (.slice (some ⟨w.heap.size, 0, none⟩) L.length L.length) ∧ FOwn ikEnc 8 30 w.heap.size w' (.slice (some ⟨w.heap.size, 0, none⟩) L.length L.length) L ∧ Below w.heap.size w w' := by
  obtain ⟨i0, hi, hz0, hz1, hz2⟩ := info_parts ikInfo
  have hB := hv.lt ikEnc_len (by omega)
  go_enter Try.func40, Try.ntmps40
  go_wp2_with (first | (refine wpList_make_full _ rfl _ _ 44 rfl w.heap.size 30 i0 (.agg #[.int .i64 0, .int .i64 0, .int .i64 0, .int .i64 0, .int .i64 0, .int .i64 0, .int .i64 0, .bool false]) 8 Try.underlying44 hi hz0 hz1 .i64 .i64 _ _ L.length rfl rfl rfl rfl ?c1 ?c2 ?c3 ?_))
  case c1 => rw [hz2]; omega
  case c2 => unfold maxLen; omega
  case c3 => exact Nat.le_refl _
  intro w1 hown hgrow
  have F0 : FFill ikEnc 8 30 w.heap.size w1 w.heap.size L 0 := FFill.start hown
  have B0 : Below w.heap.size w w1 := (Below.refl _ _).grown hgrow (Nat.le_refl _) (by simp)
  clear hown hgrow
  go_wp2
  go_loopw [4] (fun i wr => ∃ k : Nat, k ≤ L.length ∧ i = .int .i64 k ∧ FFill ikEnc 8 30 w.heap.size wr w.heap.size L k ∧ Below w.heap.size w wr) (fun i _ => L.length - (intOf i).toNat)
  case atStart => exact ⟨0, Nat.zero_le _, rfl, F0, B0⟩
  case round =>
    obtain ⟨k, hk, rfl, F, B⟩ := hrel
    clear F0 B0
    by_cases hlt : k < L.length
    · obtain ⟨b, off, rfl, _⟩ := hv (by omega)
      obtain ⟨h, hh⟩ : ∃ h, L.getD k Ik.nil = h := ⟨_, rfl⟩
      have hck : IkAtO wr b (off + k * 8) h := by
        rw [← hh]
        exact ikAtO_of ((hv.below B hB).at_ ikEnc_len Ik.nil hlt)
      obtain ⟨c0, c1, c2, c3, c4, c5, c6, c7⟩ := hck
      have hsz := F.lt
      go_wp2_with fail
      go_at_call 83
      refine (toInI h wr).mono ?_
      rintro e w2 ⟨rfl, k2⟩
      have G := F.keep (k2.block _ hsz.2)
      have B2 := B.trans (k2.mono (Nat.le_of_lt hsz.2))
      obtain ⟨u0, hu0⟩ := G.cell (k * 8) (by omega)
      obtain ⟨u1, hu1⟩ := G.cell (k * 8 + 1) (by omega)
      obtain ⟨u2, hu2⟩ := G.cell (k * 8 + 2) (by omega)
      obtain ⟨u3, hu3⟩ := G.cell (k * 8 + 3) (by omega)
      obtain ⟨u4, hu4⟩ := G.cell (k * 8 + 4) (by omega)
      obtain ⟨u5, hu5⟩ := G.cell (k * 8 + 5) (by omega)
      obtain ⟨u6, hu6⟩ := G.cell (k * 8 + 6) (by omega)
      obtain ⟨u7, hu7⟩ := G.cell (k * 8 + 7) (by omega)
      have f0 := G.frozen (k * 8)
      have f1 := G.frozen (k * 8 + 1)
      have f2 := G.frozen (k * 8 + 2)
      have f3 := G.frozen (k * 8 + 3)
      have f4 := G.frozen (k * 8 + 4)
      have f5 := G.frozen (k * 8 + 5)
      have f6 := G.frozen (k * 8 + 6)
      have f7 := G.frozen (k * 8 + 7)
      have G1 := G.step ikEnc_len Ik.nil hlt
      have B3 := below_putAll (Nat.le_refl _) (ikEnc h) (k * 8) B2
      rw [hh, ikPut] at G1
      rw [ikPut] at B3
      clear F G B B2 hh hsz
      go_wp2
      go_roundw
      case rel => exact ⟨k + 1, by omega, by go_num, G1, B3⟩
      case measure => simp [intOf]; omega
    · obtain rfl : k = L.length := by omega
      go_wp2
      go_ret
      exact ⟨rfl, F.done ikEnc_len, B⟩

end Go.Proofs.Ytghmmcenjdbfgaa
namespace Go.Proofs.Ytghmmcenjdbfgaa
open Go.ChangeShapes Go.WideShapes Go.ChangeAt Go.RowKit
open Go.ChangeMaps (open_string shut_string)
set_option linter.unusedVariables false
set_option maxRecDepth 100000

set_option maxHeartbeats 2000000 in
theorem ikEqS (ad ad' : Option Addr) (cap cap' : Nat) (L : List Ik) (w : World) (hv : FView ikEnc w ad L) (hv' : FView ikEnc w ad' L) (hl : L.length ≤ 1048576) :
    Calls Try.prog 42 #[.slice ad L.length cap, .slice ad' L.length cap'] w fun e w' => e = .returned (.bool true) ∧ Below w.heap.size w w' := by
  have hB := hv.lt ikEnc_len (by omega)
  have hB' := hv'.lt ikEnc_len (by omega)
  go_enter Try.func42, Try.ntmps42
  go_wp2
  go_loopw [5] (fun i wr => ∃ k : Nat, k ≤ L.length ∧ i = .int .i64 k ∧ Below w.heap.size w wr) (fun i _ => L.length - (intOf i).toNat)
  case atStart => exact ⟨0, Nat.zero_le _, rfl, Below.refl _ _⟩
  case round =>
    obtain ⟨k, hk, rfl, hb⟩ := hrel
    by_cases hlt : k < L.length
    · obtain ⟨b, off, rfl, _⟩ := hv (by omega)
      obtain ⟨b', off', rfl, _⟩ := hv' (by omega)
      obtain ⟨h, hh⟩ : ∃ h, L.getD k Ik.nil = h := ⟨_, rfl⟩
      have hc : ∀ Y, Below w.heap.size w Y → IkAtO Y b (off + k * 8) h := fun Y hY => by rw [← hh]; exact ikAtO_of ((hv.below hY hB).at_ ikEnc_len Ik.nil hlt)
      have hc' : ∀ Y, Below w.heap.size w Y → IkAtO Y b' (off' + k * 8) h := fun Y hY => by rw [← hh]; exact ikAtO_of ((hv'.below hY hB').at_ ikEnc_len Ik.nil hlt)
      clear hh hv hv' hB hB'
      go_wp2_with fail
      refine wp_region_held (S := fun Y => Below w.heap.size w Y) (by kernel_rfl) ?_
      change wpAnyH _ _ _ _ _ _ _ _ (World.drew _)
      have hb0 : Below w.heap.size w wr.drew := hb.drew
      refine takeW 0 17 (.slice (some ⟨b, off, none⟩) L.length cap) rfl rfl (by kernel_rfl) (by kernel_rfl) (by kernel_rfl) (fun _ _ _ h => h) (by kernel_rfl) (by (intro w hSw; go_simp)) (by assumption) ?_
      simp only [List.set_cons_zero, List.set_cons_succ]
      refine takeW 1 18 (.int .i64 k) rfl rfl (by kernel_rfl) (by kernel_rfl) (by kernel_rfl) (fun _ _ _ h => h) (by kernel_rfl) (by (intro w hSw; go_simp)) (by assumption) ?_
      simp only [List.set_cons_zero, List.set_cons_succ]
      refine takeW 2 19 (.pointer (some ⟨b, off + k * 8, none⟩)) rfl rfl (by kernel_rfl) (by kernel_rfl) (by kernel_rfl) (fun _ _ _ h => h) (by kernel_rfl) (by (intro Y hSw; go_simp; try omega)) (by assumption) ?_
      simp only [List.set_cons_zero, List.set_cons_succ]
      refine takeW 3 20 (.agg #[.int .i64 h.k, .int .i64 h.q, .int .i64 h.r, .int .i64 h.c, .int .i64 h.b, .int .i64 h.p, .int .i64 h.h, .bool h.up]) rfl rfl (by kernel_rfl) (by kernel_rfl) (by kernel_rfl) (fun _ _ _ h => h) (by kernel_rfl) (by (intro Y hSw; obtain ⟨X0, X1, X2, X3, X4, X5, X6, X7⟩ := hc Y hSw; go_simp)) (by assumption) ?_
      simp only [List.set_cons_zero, List.set_cons_succ]
      refine takeW 4 21 (.slice (some ⟨b', off', none⟩) L.length cap') rfl rfl (by kernel_rfl) (by kernel_rfl) (by kernel_rfl) (fun _ _ _ h => h) (by kernel_rfl) (by (intro w hSw; go_simp)) (by assumption) ?_
      simp only [List.set_cons_zero, List.set_cons_succ]
      refine takeW 5 22 (.int .i64 k) rfl rfl (by kernel_rfl) (by kernel_rfl) (by kernel_rfl) (fun _ _ _ h => h) (by kernel_rfl) (by (intro w hSw; go_simp)) (by assumption) ?_
      simp only [List.set_cons_zero, List.set_cons_succ]
      refine takeW 6 23 (.pointer (some ⟨b', off' + k * 8, none⟩)) rfl rfl (by kernel_rfl) (by kernel_rfl) (by kernel_rfl) (fun _ _ _ h => h) (by kernel_rfl) (by (intro Y hSw; go_simp; try omega)) (by assumption) ?_
      simp only [List.set_cons_zero, List.set_cons_succ]
      refine takeW 7 24 (.agg #[.int .i64 h.k, .int .i64 h.q, .int .i64 h.r, .int .i64 h.c, .int .i64 h.b, .int .i64 h.p, .int .i64 h.h, .bool h.up]) rfl rfl (by kernel_rfl) (by kernel_rfl) (by kernel_rfl) (fun _ _ _ h => h) (by kernel_rfl) (by (intro Y hSw; obtain ⟨X0, X1, X2, X3, X4, X5, X6, X7⟩ := hc' Y hSw; go_simp)) (by assumption) ?_
      simp only [List.set_cons_zero, List.set_cons_succ]
      refine wpAnyH_all (rs := [8]) (by kernel_rfl) (by simp) ?_
      intro i hi; obtain rfl : i = 8 := by simpa using hi
      refine wpOp_step rfl (fun K hK => ?_)
      rw [if_pos (by kernel_rfl)]
      go_simp
      go_at_call 85
      refine (eqInI h _).mono ?_
      rintro e y1 ⟨rfl, j1⟩
      have hb1 : Below w.heap.size w y1 := hb0.trans (j1.mono hb0.size)
      refine hK _ _ ⟨hb1, ?_⟩
      clear hK K hi
      refine takeW 9 26 (.bool false) rfl rfl (by kernel_rfl) (by kernel_rfl) (by kernel_rfl) (fun _ _ _ h => h) (by kernel_rfl) (by (intro w hSw; go_simp)) (by assumption) ?_
      simp only [List.set_cons_zero, List.set_cons_succ]
      refine wpAnyH_done (by kernel_rfl) ?_ _
      go_wp2
      go_roundw
      case rel => exact ⟨k + 1, by omega, by go_num, hb1⟩
      case measure => simp [intOf]; omega
    · obtain rfl : k = L.length := by omega
      go_wp2
      go_ret
      exact ⟨rfl, hb⟩

end Go.Proofs.Ytghmmcenjdbfgaa
namespace Go.Proofs.Ytghmmcenjdbfgaa
open Go.ChangeShapes Go.WideShapes Go.ChangeAt Go.RowKit
open Go.ChangeMaps (open_string shut_string)
set_option linter.unusedVariables false
set_option maxRecDepth 100000

/-- The marks that the law lays upon one, from s on. -/
def ikMk (s : Int) (i : Nat) : Ik := ⟨(s + 8 * (i : Int)), (s + 8 * (i : Int)) + 1, (s + 8 * (i : Int)) + 1 + 1, (s + 8 * (i : Int)) + 1 + 1 + 1, (s + 8 * (i : Int)) + 1 + 1 + 1 + 1, (s + 8 * (i : Int)) + 1 + 1 + 1 + 1 + 1, (s + 8 * (i : Int)) + 1 + 1 + 1 + 1 + 1 + 1, decide (((s + 8 * (i : Int)) + 1 + 1 + 1 + 1 + 1 + 1 + 1) % 3 = 0)⟩
set_option maxHeartbeats 4000000 in
theorem ikMark (ad : Option Addr) (cap : Nat) (s : Int) (base : Nat) (L : List Ik) (w : World) (hr : FOwn ikEnc 8 30 base w (.slice ad L.length cap) L) (hl : L.length ≤ 1048576) (s0 : 0 ≤ s) (s1 : s ≤ 1000000000000) :
    Calls Try.prog 43 #[.slice ad L.length cap, .int .i64 s] w fun e w' => e = .returned (.int .i64 (s + 8 * (L.length : Int))) ∧ FOwn ikEnc 8 30 base w' (.slice ad L.length cap) ((List.range L.length).map (ikMk s)) ∧ w.grownBy w' (Value.slice ad L.length cap).ownBlock := by
  by_cases hz : L.length = 0
  · obtain rfl : L = [] := List.eq_nil_of_length_eq_zero hz
    go_enter Try.func43, Try.ntmps43
    go_wp2
    refine wp_loop_rounds 1 ?_; rw [rounds_succ]
    go_wp2
    go_ret
    exact ⟨by simp, hr, ⟨rfl, rfl, rfl, Nat.le_refl _, fun _ _ _ => rfl⟩⟩
  obtain ⟨g, rfl⟩ : ∃ g, ad = some ⟨g, 0, none⟩ := by
    rcases hr.2 with ⟨_, q⟩ | ⟨g, cap, cur, q, _⟩
    · omega
    · simp only [Value.slice.injEq] at q
      exact ⟨g, q.1⟩
  have M0 : FOwn ikEnc 8 30 base w (.slice (some ⟨g, 0, none⟩) L.length cap) (markd (ikMk s) L 0) := by rw [markd_zero]; exact hr
  have g0 : w.grownBy w (some g) := ⟨rfl, rfl, rfl, Nat.le_refl _, fun _ _ _ => rfl⟩
  clear hr hz
  go_enter Try.func43, Try.ntmps43
  go_wp2
  go_loopw [1, 5] (fun q i wr => ∃ k : Nat, k ≤ L.length ∧ i = .int .i64 k ∧ q = .int .i64 (s + 8 * (k : Int)) ∧ FOwn ikEnc 8 30 base wr (.slice (some ⟨g, 0, none⟩) L.length cap) (markd (ikMk s) L k) ∧ w.grownBy wr (some g)) (fun _ i _ => L.length - (intOf i).toNat)
  case atStart => exact ⟨0, Nat.zero_le _, rfl, by simp, M0, g0⟩
  case round =>
    obtain ⟨k, hk, rfl, rfl, M, gr⟩ := hrel
    clear M0 g0
    have hml := markd_len (mk := ikMk s) hk
    by_cases hlt : k < L.length
    · rw [← hml] at M
      have hk2 : k < (markd (ikMk s) L k).length := by rw [hml]; exact hlt
      obtain ⟨h, hh⟩ : ∃ h, (markd (ikMk s) L k).getD k Ik.nil = h := ⟨_, rfl⟩
      have hck : IkAtO wr g (k * 8) h := by
        rw [← hh]
        exact ikAtO_of (M.cell ikEnc_len Ik.nil hk2)
      have ff := M.frozen
      have f0 := ff (k * 8)
      have f1 := ff (k * 8 + 1)
      have f2 := ff (k * 8 + 2)
      have f3 := ff (k * 8 + 3)
      have f4 := ff (k * 8 + 4)
      have f5 := ff (k * 8 + 5)
      have f6 := ff (k * 8 + 6)
      have f7 := ff (k * 8 + 7)
      have M1 := M.set ikEnc_len (by omega) hk2 (ikMk s k)
      rw [markd_set hlt, ikPut, hml] at M1
      have G1 := grown_putAll (ikEnc (ikMk s k)) (k * 8) gr
      rw [ikPut] at G1
      unfold ikMk at M1 G1
      dsimp only at M1 G1
      clear M gr ff hh hml hk2
      obtain ⟨c0, c1, c2, c3, c4, c5, c6, c7⟩ := hck
      generalize hK : s + 8 * (k : Int) = K at M1 G1 ⊢
      have K0 : 0 ≤ K := by omega
      have K1 : K ≤ 1100000000000 := by omega
      replace hK : Hid _ := hK
      go_wp2
      go_roundw
      case rel => exact ⟨k + 1, by omega, by go_num, by have := hK.out; go_num, M1, G1⟩
      case measure => simp [intOf]; omega
    · obtain rfl : k = L.length := by omega
      rw [markd_all] at M
      go_wp2
      go_ret
      exact ⟨rfl, M, gr⟩

end Go.Proofs.Ytghmmcenjdbfgaa
namespace Go.Proofs.Ytghmmcenjdbfgaa
open Go.ChangeShapes Go.WideShapes Go.ChangeAt Go.RowKit
open Go.ChangeMaps (open_string shut_string)
set_option linter.unusedVariables false
set_option maxRecDepth 100000

theorem OuAtO.below {w w' : World} {q o n : Nat} {x : Ou} (h : OuAtO w q o x) (k : Below n w w') (hq : q < n) : OuAtO w' q o x :=
  ⟨(World.cell?_of_block (a := ⟨q, o, none⟩) (k.block q hq)).trans h.c0, (World.cell?_of_block (a := ⟨q, o + 1, none⟩) (k.block q hq)).trans h.c1, (World.cell?_of_block (a := ⟨q, o + 2, none⟩) (k.block q hq)).trans h.c2, (World.cell?_of_block (a := ⟨q, o + 3, none⟩) (k.block q hq)).trans h.c3, (World.cell?_of_block (a := ⟨q, o + 4, none⟩) (k.block q hq)).trans h.c4, (World.cell?_of_block (a := ⟨q, o + 5, none⟩) (k.block q hq)).trans h.c5, (World.cell?_of_block (a := ⟨q, o + 6, none⟩) (k.block q hq)).trans h.c6, (World.cell?_of_block (a := ⟨q, o + 7, none⟩) (k.block q hq)).trans h.c7⟩
set_option maxHeartbeats 2000000 in
theorem eqO (x : Ou) (w : World) :
    Calls Try.prog 88 #[.agg #[.int .i64 x.k, .int .i64 x.pt, .int .i64 x.r, .int .i64 x.c, .int .i64 x.b, .int .i64 x.p, .int .i64 x.h, .bool x.on], .agg #[.int .i64 x.k, .int .i64 x.pt, .int .i64 x.r, .int .i64 x.c, .int .i64 x.b, .int .i64 x.p, .int .i64 x.h, .bool x.on]] w fun e w' => e = .returned (.bool true) ∧ Below w.heap.size w w' := by
  obtain ⟨w0, hw0⟩ : ∃ w0, w0 = (w.alloc (Obj.cells #[.int .i64 x.k, .int .i64 x.pt, .int .i64 x.r, .int .i64 x.c, .int .i64 x.b, .int .i64 x.p, .int .i64 x.h, .bool x.on] 38)).alloc (Obj.cells #[.int .i64 x.k, .int .i64 x.pt, .int .i64 x.r, .int .i64 x.c, .int .i64 x.b, .int .i64 x.p, .int .i64 x.h, .bool x.on] 38) := ⟨_, rfl⟩
  have b0 : Below w.heap.size w w0 := by rw [hw0]; exact ((Below.refl _ _).alloc (Nat.le_refl _) _).alloc (by simp) _
  have P0 : OuAtO w0 w.heap.size 0 x := by rw [hw0]; constructor <;> simp [go_sem]
  have R0 : OuAtO w0 (w.heap.size + 1) 0 x := by rw [hw0]; constructor <;> simp [go_sem]
  have hle : w.heap.size + 1 < w0.heap.size := World.block_lt_of_cell? w0 _ R0.c0
  go_enter Try.func88, Try.ntmps88
  go_wp2_with fail
  go_at_call 119
  rw [← hw0]
  clear hw0
  refine (eqVs x.r x.c x.b x.p w0).mono ?_
  rintro e w1 ⟨rfl, k1⟩
  have b1 := b0.trans (k1.mono b0.size)
  obtain ⟨p0, p1, p2, p3, p4, p5, p6, p7⟩ := P0.below k1 (by omega)
  obtain ⟨r0, r1, r2, r3, r4, r5, r6, r7⟩ := R0.below k1 (by omega)
  simp only [Nat.zero_add] at p0 r0 p1 r1 p2 r2 p3 r3 p4 r4 p5 r5 p6 r6 p7 r7
  clear P0 R0 k1 b0
  go_wp2
  go_ret
  exact ⟨rfl, b1⟩
set_option maxHeartbeats 2000000 in
theorem ouEqS (ad ad' : Option Addr) (cap cap' : Nat) (L : List Ou) (w : World) (hv : FView ouEnc w ad L) (hv' : FView ouEnc w ad' L) (hl : L.length ≤ 1048576) :
    Calls Try.prog 46 #[.slice ad L.length cap, .slice ad' L.length cap'] w fun e w' => e = .returned (.bool true) ∧ Below w.heap.size w w' := by
  have hB := hv.lt ouEnc_len (by omega)
  have hB' := hv'.lt ouEnc_len (by omega)
  go_enter Try.func46, Try.ntmps46
  go_wp2
  go_loopw [5] (fun i wr => ∃ k : Nat, k ≤ L.length ∧ i = .int .i64 k ∧ Below w.heap.size w wr) (fun i _ => L.length - (intOf i).toNat)
  case atStart => exact ⟨0, Nat.zero_le _, rfl, Below.refl _ _⟩
  case round =>
    obtain ⟨k, hk, rfl, hb⟩ := hrel
    by_cases hlt : k < L.length
    · obtain ⟨b, off, rfl, _⟩ := hv (by omega)
      obtain ⟨b', off', rfl, _⟩ := hv' (by omega)
      obtain ⟨h, hh⟩ : ∃ h, L.getD k Ou.nil = h := ⟨_, rfl⟩
      have hc : ∀ Y, Below w.heap.size w Y → OuAtO Y b (off + k * 8) h := fun Y hY => by rw [← hh]; exact ouAtO_of ((hv.below hY hB).at_ ouEnc_len Ou.nil hlt)
      have hc' : ∀ Y, Below w.heap.size w Y → OuAtO Y b' (off' + k * 8) h := fun Y hY => by rw [← hh]; exact ouAtO_of ((hv'.below hY hB').at_ ouEnc_len Ou.nil hlt)
      clear hh hv hv' hB hB'
      go_wp2_with fail
      refine wp_region_held (S := fun Y => Below w.heap.size w Y) (by kernel_rfl) ?_
      change wpAnyH _ _ _ _ _ _ _ _ (World.drew _)
      have hb0 : Below w.heap.size w wr.drew := hb.drew
      refine takeW 0 17 (.slice (some ⟨b, off, none⟩) L.length cap) rfl rfl (by kernel_rfl) (by kernel_rfl) (by kernel_rfl) (fun _ _ _ h => h) (by kernel_rfl) (by (intro w hSw; go_simp)) (by assumption) ?_
      simp only [List.set_cons_zero, List.set_cons_succ]
      refine takeW 1 18 (.int .i64 k) rfl rfl (by kernel_rfl) (by kernel_rfl) (by kernel_rfl) (fun _ _ _ h => h) (by kernel_rfl) (by (intro w hSw; go_simp)) (by assumption) ?_
      simp only [List.set_cons_zero, List.set_cons_succ]
      refine takeW 2 19 (.pointer (some ⟨b, off + k * 8, none⟩)) rfl rfl (by kernel_rfl) (by kernel_rfl) (by kernel_rfl) (fun _ _ _ h => h) (by kernel_rfl) (by (intro Y hSw; go_simp; try omega)) (by assumption) ?_
      simp only [List.set_cons_zero, List.set_cons_succ]
      refine takeW 3 20 (.agg #[.int .i64 h.k, .int .i64 h.pt, .int .i64 h.r, .int .i64 h.c, .int .i64 h.b, .int .i64 h.p, .int .i64 h.h, .bool h.on]) rfl rfl (by kernel_rfl) (by kernel_rfl) (by kernel_rfl) (fun _ _ _ h => h) (by kernel_rfl) (by (intro Y hSw; obtain ⟨X0, X1, X2, X3, X4, X5, X6, X7⟩ := hc Y hSw; go_simp)) (by assumption) ?_
      simp only [List.set_cons_zero, List.set_cons_succ]
      refine takeW 4 21 (.slice (some ⟨b', off', none⟩) L.length cap') rfl rfl (by kernel_rfl) (by kernel_rfl) (by kernel_rfl) (fun _ _ _ h => h) (by kernel_rfl) (by (intro w hSw; go_simp)) (by assumption) ?_
      simp only [List.set_cons_zero, List.set_cons_succ]
      refine takeW 5 22 (.int .i64 k) rfl rfl (by kernel_rfl) (by kernel_rfl) (by kernel_rfl) (fun _ _ _ h => h) (by kernel_rfl) (by (intro w hSw; go_simp)) (by assumption) ?_
      simp only [List.set_cons_zero, List.set_cons_succ]
      refine takeW 6 23 (.pointer (some ⟨b', off' + k * 8, none⟩)) rfl rfl (by kernel_rfl) (by kernel_rfl) (by kernel_rfl) (fun _ _ _ h => h) (by kernel_rfl) (by (intro Y hSw; go_simp; try omega)) (by assumption) ?_
      simp only [List.set_cons_zero, List.set_cons_succ]
      refine takeW 7 24 (.agg #[.int .i64 h.k, .int .i64 h.pt, .int .i64 h.r, .int .i64 h.c, .int .i64 h.b, .int .i64 h.p, .int .i64 h.h, .bool h.on]) rfl rfl (by kernel_rfl) (by kernel_rfl) (by kernel_rfl) (fun _ _ _ h => h) (by kernel_rfl) (by (intro Y hSw; obtain ⟨X0, X1, X2, X3, X4, X5, X6, X7⟩ := hc' Y hSw; go_simp)) (by assumption) ?_
      simp only [List.set_cons_zero, List.set_cons_succ]
      refine wpAnyH_all (rs := [8]) (by kernel_rfl) (by simp) ?_
      intro i hi; obtain rfl : i = 8 := by simpa using hi
      refine wpOp_step rfl (fun K hK => ?_)
      rw [if_pos (by kernel_rfl)]
      go_simp
      go_at_call 88
      refine (eqO h _).mono ?_
      rintro e y1 ⟨rfl, j1⟩
      have hb1 : Below w.heap.size w y1 := hb0.trans (j1.mono hb0.size)
      refine hK _ _ ⟨hb1, ?_⟩
      clear hK K hi
      refine takeW 9 26 (.bool false) rfl rfl (by kernel_rfl) (by kernel_rfl) (by kernel_rfl) (fun _ _ _ h => h) (by kernel_rfl) (by (intro w hSw; go_simp)) (by assumption) ?_
      simp only [List.set_cons_zero, List.set_cons_succ]
      refine wpAnyH_done (by kernel_rfl) ?_ _
      go_wp2
      go_roundw
      case rel => exact ⟨k + 1, by omega, by go_num, hb1⟩
      case measure => simp [intOf]; omega
    · obtain rfl : k = L.length := by omega
      go_wp2
      go_ret
      exact ⟨rfl, hb⟩

end Go.Proofs.Ytghmmcenjdbfgaa
namespace Go.Proofs.Ytghmmcenjdbfgaa
open Go.ChangeShapes Go.WideShapes Go.ChangeAt Go.RowKit
open Go.ChangeMaps (open_string shut_string)
set_option linter.unusedVariables false
set_option maxRecDepth 100000

/-- The marks that the law lays upon one, from s on. -/
def ouMk (s : Int) (i : Nat) : Ou := ⟨(s + 8 * (i : Int)), (s + 8 * (i : Int)) + 1, (s + 8 * (i : Int)) + 1 + 1, (s + 8 * (i : Int)) + 1 + 1 + 1, (s + 8 * (i : Int)) + 1 + 1 + 1 + 1, (s + 8 * (i : Int)) + 1 + 1 + 1 + 1 + 1, (s + 8 * (i : Int)) + 1 + 1 + 1 + 1 + 1 + 1, decide (((s + 8 * (i : Int)) + 1 + 1 + 1 + 1 + 1 + 1 + 1) % 3 = 0)⟩
set_option maxHeartbeats 4000000 in
theorem ouMark (ad : Option Addr) (cap : Nat) (s : Int) (base : Nat) (L : List Ou) (w : World) (hr : FOwn ouEnc 8 38 base w (.slice ad L.length cap) L) (hl : L.length ≤ 1048576) (s0 : 0 ≤ s) (s1 : s ≤ 1000000000000) :
    Calls Try.prog 47 #[.slice ad L.length cap, .int .i64 s] w fun e w' => e = .returned (.int .i64 (s + 8 * (L.length : Int))) ∧ FOwn ouEnc 8 38 base w' (.slice ad L.length cap) ((List.range L.length).map (ouMk s)) ∧ w.grownBy w' (Value.slice ad L.length cap).ownBlock := by
  by_cases hz : L.length = 0
  · obtain rfl : L = [] := List.eq_nil_of_length_eq_zero hz
    go_enter Try.func47, Try.ntmps47
    go_wp2
    refine wp_loop_rounds 1 ?_; rw [rounds_succ]
    go_wp2
    go_ret
    exact ⟨by simp, hr, ⟨rfl, rfl, rfl, Nat.le_refl _, fun _ _ _ => rfl⟩⟩
  obtain ⟨g, rfl⟩ : ∃ g, ad = some ⟨g, 0, none⟩ := by
    rcases hr.2 with ⟨_, q⟩ | ⟨g, cap, cur, q, _⟩
    · omega
    · simp only [Value.slice.injEq] at q
      exact ⟨g, q.1⟩
  have M0 : FOwn ouEnc 8 38 base w (.slice (some ⟨g, 0, none⟩) L.length cap) (markd (ouMk s) L 0) := by rw [markd_zero]; exact hr
  have g0 : w.grownBy w (some g) := ⟨rfl, rfl, rfl, Nat.le_refl _, fun _ _ _ => rfl⟩
  clear hr hz
  go_enter Try.func47, Try.ntmps47
  go_wp2
  go_loopw [1, 5] (fun q i wr => ∃ k : Nat, k ≤ L.length ∧ i = .int .i64 k ∧ q = .int .i64 (s + 8 * (k : Int)) ∧ FOwn ouEnc 8 38 base wr (.slice (some ⟨g, 0, none⟩) L.length cap) (markd (ouMk s) L k) ∧ w.grownBy wr (some g)) (fun _ i _ => L.length - (intOf i).toNat)
  case atStart => exact ⟨0, Nat.zero_le _, rfl, by simp, M0, g0⟩
  case round =>
    obtain ⟨k, hk, rfl, rfl, M, gr⟩ := hrel
    clear M0 g0
    have hml := markd_len (mk := ouMk s) hk
    by_cases hlt : k < L.length
    · rw [← hml] at M
      have hk2 : k < (markd (ouMk s) L k).length := by rw [hml]; exact hlt
      obtain ⟨h, hh⟩ : ∃ h, (markd (ouMk s) L k).getD k Ou.nil = h := ⟨_, rfl⟩
      have hck : OuAtO wr g (k * 8) h := by
        rw [← hh]
        exact ouAtO_of (M.cell ouEnc_len Ou.nil hk2)
      have ff := M.frozen
      have f0 := ff (k * 8)
      have f1 := ff (k * 8 + 1)
      have f2 := ff (k * 8 + 2)
      have f3 := ff (k * 8 + 3)
      have f4 := ff (k * 8 + 4)
      have f5 := ff (k * 8 + 5)
      have f6 := ff (k * 8 + 6)
      have f7 := ff (k * 8 + 7)
      have M1 := M.set ouEnc_len (by omega) hk2 (ouMk s k)
      rw [markd_set hlt, ouPut, hml] at M1
      have G1 := grown_putAll (ouEnc (ouMk s k)) (k * 8) gr
      rw [ouPut] at G1
      unfold ouMk at M1 G1
      dsimp only at M1 G1
      clear M gr ff hh hml hk2
      obtain ⟨c0, c1, c2, c3, c4, c5, c6, c7⟩ := hck
      generalize hK : s + 8 * (k : Int) = K at M1 G1 ⊢
      have K0 : 0 ≤ K := by omega
      have K1 : K ≤ 1100000000000 := by omega
      replace hK : Hid _ := hK
      go_wp2
      go_roundw
      case rel => exact ⟨k + 1, by omega, by go_num, by have := hK.out; go_num, M1, G1⟩
      case measure => simp [intOf]; omega
    · obtain rfl : k = L.length := by omega
      rw [markd_all] at M
      go_wp2
      go_ret
      exact ⟨rfl, M, gr⟩
set_option maxHeartbeats 4000000 in
theorem ouHeld (ad : Option Addr) (len cap : Nat) (s : Int) (w : World) (hv : FView ouEnc w ad ((List.range len).map (ouMk s))) (hl : len ≤ 1048576) (s0 : 0 ≤ s) (s1 : s ≤ 1000000000000) :
    Calls Try.prog 48 #[.slice ad len cap, .int .i64 s] w fun e w' => e = .returned (.int .i64 (s + 8 * (len : Int))) ∧ w' = w := by
  go_enter Try.func48, Try.ntmps48
  go_wp2
  go_loop [1, 5] (fun q i => ∃ k : Nat, k ≤ len ∧ i = .int .i64 k ∧ q = .int .i64 (s + 8 * (k : Int))) (fun _ i => len - (intOf i).toNat)
  case atStart => exact ⟨0, Nat.zero_le _, rfl, by simp⟩
  case round =>
    obtain ⟨k, hk, rfl, rfl⟩ := hrel
    by_cases hlt : k < len
    · obtain ⟨b, off, rfl, _⟩ := hv (by simpa using Nat.lt_of_le_of_lt (Nat.zero_le _) hlt)
      have hck : OuAtO w b (off + k * 8) (ouMk s k) := by
        have := ouAtO_of (hv.at_ ouEnc_len Ou.nil (i := k) (by simpa using hlt))
        rwa [show ((List.range len).map (ouMk s)).getD k Ou.nil = ouMk s k by simp [List.getD, hlt]] at this
      obtain ⟨c0, c1, c2, c3, c4, c5, c6, c7⟩ := hck
      unfold ouMk at c0 c1 c2 c3 c4 c5 c6 c7
      dsimp only at c0 c1 c2 c3 c4 c5 c6 c7
      generalize hK : s + 8 * (k : Int) = K at c0 c1 c2 c3 c4 c5 c6 c7 ⊢
      have K0 : 0 ≤ K := by omega
      have K1 : K ≤ 1100000000000 := by omega
      replace hK : Hid _ := hK
      have tq : ∀ x : Int, (!decide (x % 3 = 0) == (x % 3 == 0)) = false := fun x => by by_cases q : x % 3 = 0 <;> simp [q]
      go_wp2
      go_round
      case rel => exact ⟨k + 1, by omega, by go_num, by have := hK.out; go_num⟩
      case measure => simp [intOf]; omega
    · obtain rfl : k = len := by omega
      go_wp2
      go_ret
      exact ⟨rfl, rfl⟩

end Go.Proofs.Ytghmmcenjdbfgaa
