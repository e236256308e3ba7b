/- spec.React, walked. -/
import Derived.Test.YthgcbihhdbpbdaaGreatDoorRows
import Derived.WalkKit
import Derived.ProofKit
import Derived.OpenShut
import Derived.ShutString
import Derived.ChangeOld
import Derived.Below
import Derived.Deep.QuietTactic
import Derived.BigQuiet
import Derived.WalkSmall
import Derived.Laws.OwnMore
import Derived.WalkSpells
import Derived.WalkLawsBesides
import Derived.Deep.Cut
import Derived.Maps.AppendAt
import Derived.Test.YthgcbihhdbpbdaaGreatDoorM14
import Derived.Test.YthgcbihhdbpbdaaGreatDoorKRe4
import Derived.Test.YthgcbihhdbpbdaaGreatDoorKRe4t
import Derived.Test.YthgcbihhdbpbdaaGreatDoorKRe4l
import Derived.Test.YthgcbihhdbpbdaaGreatDoorM7
namespace Go.Proofs.YthgcbihhdbpbdaaGreatDoor
open Go.ChangeShapes Go.WideShapes Go.ChangeAt Go.RowKit
open Go.ChangeMaps (open_string shut_string)
set_option linter.unusedVariables false
set_option maxRecDepth 100000

theorem inS (id : Int) (cap : Nat) (L : List Pt) (x : Ik) (base g : Nat) (w : World) (hr : FOwn ptEnc 11 47 base w (.slice (some ⟨g, 0, none⟩) L.length cap) L) (hg : goes id L x = true) :
    Calls Tryz.prog 93 #[.agg #[.int .i64 id, .slice (some ⟨g, 0, none⟩) L.length cap], .agg #[.int .i64 x.k, .int .i64 x.q, .int .i64 x.r, .int .i64 x.c, .int .i64 x.b, .int .i64 x.p, .int .i64 x.h, .bool x.up]] w fun e w' => ∃ ad' cap', e = .returned (.agg #[.int .i64 id, .slice ad' (afterL id L x).length cap']) ∧ FOwn ptEnc 11 47 base w' (.slice ad' (afterL id L x).length cap') (afterL id L x) ∧ (∀ g_, (Value.slice ad' (afterL id L x).length cap').ownBlock = some g_ → g_ = g ∨ w.heap.size ≤ g_) ∧ Bar g w.heap.size w w' ∧ Below base w w' := by
  have hx0 := hg
  unfold goes at hg
  simp only [Bool.and_eq_true, decide_eq_true_eq] at hg
  obtain ⟨hb, hx, hq⟩ := hg
  have hl := (bOk_all hb).2.1.2
  obtain ⟨k, q, r, c, b, p, h, up⟩ := x
  dsimp only at hq ⊢
  obtain ⟨kq, rfl⟩ : ∃ kq : Nat, q = (kq : Int) := ⟨q.toNat, by omega⟩
  have hkl : kq < L.length := by omega
  rcases inOk_k hx with e | e | e
  · dsimp only at e
    subst e
    have hu : up = false := by
      unfold inOk at hx
      simp only [if_true, Bool.and_eq_true, Bool.not_eq_true'] at hx
      exact hx.2.2.2
    subst hu
    exact inSC id cap L kq r c b p h base g w hr hl hkl
  · dsimp only at e
    subst e
    unfold inOk at hx
    simp only [show ¬ ((2 : Int) = 1) by decide, show ¬ ((2 : Int) = 3) by decide, if_false, if_true, decide_eq_true_eq] at hx
    obtain ⟨e1, e2, e3, e4, e5, e6, e7⟩ := hx
    rw [e1, e2, e3, e4, e5, e6, e7]
    exact inST id cap L base g w hr hl hb
  · dsimp only at e
    subst e
    unfold inOk at hx
    simp only [show ¬ ((3 : Int) = 1) by decide, if_false, if_true, Bool.and_eq_true, decide_eq_true_eq, beq_iff_eq] at hx
    obtain ⟨_, ⟨e2, e3, e4, e5⟩, e6⟩ := hx
    rw [e2, e3, e4, e5, e6]
    exact inSL id cap L kq up base g w hr hl hkl
set_option maxHeartbeats 8000000 in
theorem reactS (id : Int) (ad : Option Addr) (cap : Nat) (L : List Pt) (x : Ik) (w : World) (hv : FView ptEnc w ad L) (hl : L.length ≤ 1048576) (hn : ad = none → cap = 0) :
    Calls Tryz.prog 54 #[.agg #[.int .i64 id, .slice ad L.length cap], .agg #[.int .i64 x.k, .int .i64 x.q, .int .i64 x.r, .int .i64 x.c, .int .i64 x.b, .int .i64 x.p, .int .i64 x.h, .bool x.up]] w fun e w' => ∃ ad' cap' ao co, e = .returned (.tuple #[.agg #[.int .i64 id, .slice ad' (reactL id L x).length cap'], .slice ao (reactO id L x).length co]) ∧ FOwn ptEnc 11 47 w.heap.size w' (.slice ad' (reactL id L x).length cap') (reactL id L x) ∧ FOwn ouEnc 8 41 w.heap.size w' (.slice ao (reactO id L x).length co) (reactO id L x) ∧ (∀ g_, (Value.slice ao (reactO id L x).length co).ownBlock = some g_ → (Value.slice ad' (reactL id L x).length cap').ownBlock ≠ some g_) ∧ Below w.heap.size w w' := by
  obtain ⟨i0, hi, hz0, hz1, hz2⟩ := info_parts ouInfo
  have hB := hv.lt ptEnc_len (by omega)
  obtain ⟨y, hy⟩ : ∃ y, y = ((w.alloc (Obj.cells #[.int .i64 id, .slice ad L.length cap] 51)).alloc (Obj.cells #[.int .i64 x.k, .int .i64 x.q, .int .i64 x.r, .int .i64 x.c, .int .i64 x.b, .int .i64 x.p, .int .i64 x.h, .bool x.up] 27)).alloc (Obj.cells #[.int .i64 0, .slice none 0 0] 51) := ⟨_, rfl⟩
  have B0 : Below w.heap.size w y := by rw [hy]; exact (((Below.refl _ _).alloc (Nat.le_refl _) _).alloc (by simp) _).alloc (by simp; omega) _
  have A0 : BrAt y w.heap.size id (.slice ad L.length cap) := by rw [hy]; constructor <;> simp [go_sem]
  have X0 : InAt y (w.heap.size + 1) x := by rw [hy]; constructor <;> simp [go_sem]
  have R0 : BBox y (w.heap.size + 1 + 1) 0 (.slice none 0 0) := by rw [hy]; refine ⟨?_, fun i => ?_⟩; constructor <;> simp [go_sem]; simp [go_sem]
  have S0 := R0.lt
  have hv1 := hv.below B0 hB
  have hB1 := hv1.lt ptEnc_len (by omega)
  have hvb0 : ∀ a, ad = some a → 0 < L.length → a.block < w.heap.size := hB
  clear hv hB
  obtain ⟨D, hD⟩ : ∃ D, reactL id L x = D := ⟨_, rfl⟩
  obtain ⟨OO, hO⟩ : ∃ D, reactO id L x = D := ⟨_, rfl⟩
  rw [hD, hO]
  replace hD : Hid _ := hD
  replace hO : Hid _ := hO
  go_enter Tryz.func54, Tryz.ntmps54
  go_upto_region 1 with fail
  rw [← hy]
  clear hy
  have hvb := hvb0
  have BY := B0
  obtain ⟨ye, hye⟩ : ∃ y_, y_ = y.alloc (Obj.cells #[] 41) := ⟨_, rfl⟩
  have oE : FOwn ouEnc 8 41 y.heap.size ye (.slice (some ⟨y.heap.size, 0, none⟩) 0 0) ([] : List Ou) := by rw [hye]; exact FOwn.empty y
  have ke : Below y.heap.size y ye := by rw [hye]; exact below_new _
  have ze := ke.size
  have A0 := A0.below ke A0.lt
  have X0 := X0.below ke X0.lt
  have R0 := R0.below ke R0.lt
  have hv1 := hv1.below ke (hv1.lt ptEnc_len (by omega))
  have BY := BY.trans (ke.mono BY.size)
  clear ke
  go_upto_region 2 with fail
  rw [← hye]
  clear hye
  generalize hE : y.heap.size = E at oE S0 ⊢
  replace hE : Hid _ := hE
  have wE : w.heap.size + 1 + 1 < E := S0
  have eE0 : E < ye.heap.size := (oE.lt E rfl).2
  have cc_ := A0
  obtain ⟨a0, a1⟩ := cc_
  go_wp2_with fail
  go_at_call 91
  clear a0 a1
  refine (bOkS id ad cap L ye hv1 hl).mono ?_
  rintro e Y1 ⟨rfl, k1⟩
  have z1 := k1.size
  have A0 := A0.below k1 A0.lt
  have X0 := X0.below k1 X0.lt
  have R0 := R0.below k1 R0.lt
  have hv1 := hv1.below k1 (hv1.lt ptEnc_len (by omega))
  have oE := oE.later k1
  have BY := BY.trans (k1.mono BY.size)
  clear k1
  cases hb : bOk id L with
  | false =>
    have hgo : goes id L x = false := by unfold goes; rw [hb]; rfl
    have hN : Hid (D = L ∧ OO = []) := by
      unfold Hid
      rw [← hD.out, ← hO.out]
      unfold reactL reactO
      rw [hgo]
      exact ⟨rfl, rfl⟩
    clear hD hO
    have cc_ := A0
    obtain ⟨a0, a1⟩ := cc_
    go_wp2_with fail
    go_at_call 92
    clear a0 a1
    have z9 := BY.size
    refine (copS id ad cap L Y1 hv1 hl hn).mono ?_
    rintro e w9 ⟨adN, capN, rfl, oN, k9⟩
    have S9 : w.heap.size + 1 + 1 < Y1.heap.size := R0.lt
    have jN : ∀ g_, (Value.slice (some ⟨E, 0, none⟩) 0 0).ownBlock = some g_ → (Value.slice adN L.length capN).ownBlock ≠ some g_ := fun g_ e e2 => by have h1 := (oN.lt g_ e2).1; have h2 := (oE.lt g_ e).2; omega
    have oE := oE.later k9
    have R0 := R0.below k9 R0.lt
    have BY := BY.trans (k9.mono BY.size)
    have RP := R0.put id (.slice adN L.length capN)
    obtain ⟨⟨r0, r1⟩, rf⟩ := R0
    have BZ := (BY.setCell (p := ⟨w.heap.size + 1 + 1, 0, none⟩) (by show _ ≤ w.heap.size + 1 + 1; omega) (.int .i64 id)).setCell (p := ⟨w.heap.size + 1 + 1, 1, none⟩) (by show _ ≤ w.heap.size + 1 + 1; omega) (.slice adN L.length capN)
    have OZ : FOwn ptEnc 11 47 w.heap.size ((w9.setCell ⟨w.heap.size + 1 + 1, 0, none⟩ (.int .i64 id)).setCell ⟨w.heap.size + 1 + 1, 1, none⟩ (.slice adN L.length capN)) (.slice adN L.length capN) L := (oN.base (by omega)).keep fun g' e => by
      have := (oN.lt g' e).1
      rw [Below.heap_setCell _ _ _ _ (by show g' ≠ w.heap.size + 1 + 1; omega), Below.heap_setCell _ _ _ _ (by show g' ≠ w.heap.size + 1 + 1; omega)]
    obtain ⟨⟨p0, p1⟩, _⟩ := RP
    have OQ : FOwn ouEnc 8 41 w.heap.size ((w9.setCell ⟨w.heap.size + 1 + 1, 0, none⟩ (.int .i64 id)).setCell ⟨w.heap.size + 1 + 1, 1, none⟩ (.slice adN L.length capN)) (.slice (some ⟨E, 0, none⟩) 0 0) [] := (oE.base (by omega)).keep fun g' e => by
      have := (oE.lt g' e).1
      rw [Below.heap_setCell _ _ _ _ (by show g' ≠ w.heap.size + 1 + 1; omega), Below.heap_setCell _ _ _ _ (by show g' ≠ w.heap.size + 1 + 1; omega)]
    go_wp2
    obtain ⟨rfl, rfl⟩ := hN.out
    refine bodyPost_ret (v := .tuple #[.agg #[.int .i64 id, .slice adN D.length capN], .slice (some ⟨E, 0, none⟩) 0 0]) (by simp [results, Tryz.results54, go_sem, *]) rfl ⟨adN, capN, some ⟨E, 0, none⟩, 0, rfl, OZ, OQ, jN, BZ⟩
  | true =>
    have hl4 := (bOk_all hb).2.1
    have X1 := X0
    obtain ⟨x0, x1, x2, x3, x4, x5, x6, x7⟩ := X1
    go_wp2_with fail
    go_at_call 25
    clear x0 x1 x2 x3 x4 x5 x6 x7
    refine (inOkS x Y1).mono ?_
    rintro e Y2 ⟨rfl, k2⟩
    have z2 := k2.size
    have A0 := A0.below k2 A0.lt
    have X0 := X0.below k2 X0.lt
    have R0 := R0.below k2 R0.lt
    have hv1 := hv1.below k2 (hv1.lt ptEnc_len (by omega))
    have oE := oE.later k2
    have BY := BY.trans (k2.mono BY.size)
    clear k2
    cases hx : inOk x with
    | false =>
      have hgo : goes id L x = false := by unfold goes; rw [hb, hx]; rfl
      have hN : Hid (D = L ∧ OO = []) := by
        unfold Hid
        rw [← hD.out, ← hO.out]
        unfold reactL reactO
        rw [hgo]
        exact ⟨rfl, rfl⟩
      clear hD hO
      have cc_ := A0
      obtain ⟨a0, a1⟩ := cc_
      go_wp2_with fail
      go_at_call 92
      clear a0 a1
      have z9 := BY.size
      refine (copS id ad cap L Y2 hv1 hl hn).mono ?_
      rintro e w9 ⟨adN, capN, rfl, oN, k9⟩
      have S9 : w.heap.size + 1 + 1 < Y2.heap.size := R0.lt
      have jN : ∀ g_, (Value.slice (some ⟨E, 0, none⟩) 0 0).ownBlock = some g_ → (Value.slice adN L.length capN).ownBlock ≠ some g_ := fun g_ e e2 => by have h1 := (oN.lt g_ e2).1; have h2 := (oE.lt g_ e).2; omega
      have oE := oE.later k9
      have R0 := R0.below k9 R0.lt
      have BY := BY.trans (k9.mono BY.size)
      have RP := R0.put id (.slice adN L.length capN)
      obtain ⟨⟨r0, r1⟩, rf⟩ := R0
      have BZ := (BY.setCell (p := ⟨w.heap.size + 1 + 1, 0, none⟩) (by show _ ≤ w.heap.size + 1 + 1; omega) (.int .i64 id)).setCell (p := ⟨w.heap.size + 1 + 1, 1, none⟩) (by show _ ≤ w.heap.size + 1 + 1; omega) (.slice adN L.length capN)
      have OZ : FOwn ptEnc 11 47 w.heap.size ((w9.setCell ⟨w.heap.size + 1 + 1, 0, none⟩ (.int .i64 id)).setCell ⟨w.heap.size + 1 + 1, 1, none⟩ (.slice adN L.length capN)) (.slice adN L.length capN) L := (oN.base (by omega)).keep fun g' e => by
        have := (oN.lt g' e).1
        rw [Below.heap_setCell _ _ _ _ (by show g' ≠ w.heap.size + 1 + 1; omega), Below.heap_setCell _ _ _ _ (by show g' ≠ w.heap.size + 1 + 1; omega)]
      obtain ⟨⟨p0, p1⟩, _⟩ := RP
      have OQ : FOwn ouEnc 8 41 w.heap.size ((w9.setCell ⟨w.heap.size + 1 + 1, 0, none⟩ (.int .i64 id)).setCell ⟨w.heap.size + 1 + 1, 1, none⟩ (.slice adN L.length capN)) (.slice (some ⟨E, 0, none⟩) 0 0) [] := (oE.base (by omega)).keep fun g' e => by
        have := (oE.lt g' e).1
        rw [Below.heap_setCell _ _ _ _ (by show g' ≠ w.heap.size + 1 + 1; omega), Below.heap_setCell _ _ _ _ (by show g' ≠ w.heap.size + 1 + 1; omega)]
      go_wp2
      obtain ⟨rfl, rfl⟩ := hN.out
      refine bodyPost_ret (v := .tuple #[.agg #[.int .i64 id, .slice adN D.length capN], .slice (some ⟨E, 0, none⟩) 0 0]) (by simp [results, Tryz.results54, go_sem, *]) rfl ⟨adN, capN, some ⟨E, 0, none⟩, 0, rfl, OZ, OQ, jN, BZ⟩
    | true =>
      have X1 := X0
      obtain ⟨x0, x1, x2, x3, x4, x5, x6, x7⟩ := X1
      have cc_ := A0
      obtain ⟨a0, a1⟩ := cc_
      have hq0 := (inOk_q hx).1
      by_cases hq : x.q < (L.length : Int)
      rotate_left
      · have hgo : goes id L x = false := by unfold goes; rw [hb, hx, decide_eq_false (by omega)]; rfl
        have dq : decide ((L.length : Int) ≤ x.q) = true := decide_eq_true (by omega)
        replace hq : Hid _ := hq
        go_upto_region 3 with fail
        clear x0 x1 x2 x3 x4 x5 x6 x7 a0 a1
        have hN : Hid (D = L ∧ OO = []) := by
          unfold Hid
          rw [← hD.out, ← hO.out]
          unfold reactL reactO
          rw [hgo]
          exact ⟨rfl, rfl⟩
        clear hD hO
        have cc_ := A0
        obtain ⟨a0, a1⟩ := cc_
        go_wp2_with fail
        go_at_call 92
        clear a0 a1
        have z9 := BY.size
        refine (copS id ad cap L Y2 hv1 hl hn).mono ?_
        rintro e w9 ⟨adN, capN, rfl, oN, k9⟩
        have S9 : w.heap.size + 1 + 1 < Y2.heap.size := R0.lt
        have jN : ∀ g_, (Value.slice (some ⟨E, 0, none⟩) 0 0).ownBlock = some g_ → (Value.slice adN L.length capN).ownBlock ≠ some g_ := fun g_ e e2 => by have h1 := (oN.lt g_ e2).1; have h2 := (oE.lt g_ e).2; omega
        have oE := oE.later k9
        have R0 := R0.below k9 R0.lt
        have BY := BY.trans (k9.mono BY.size)
        have RP := R0.put id (.slice adN L.length capN)
        obtain ⟨⟨r0, r1⟩, rf⟩ := R0
        have BZ := (BY.setCell (p := ⟨w.heap.size + 1 + 1, 0, none⟩) (by show _ ≤ w.heap.size + 1 + 1; omega) (.int .i64 id)).setCell (p := ⟨w.heap.size + 1 + 1, 1, none⟩) (by show _ ≤ w.heap.size + 1 + 1; omega) (.slice adN L.length capN)
        have OZ : FOwn ptEnc 11 47 w.heap.size ((w9.setCell ⟨w.heap.size + 1 + 1, 0, none⟩ (.int .i64 id)).setCell ⟨w.heap.size + 1 + 1, 1, none⟩ (.slice adN L.length capN)) (.slice adN L.length capN) L := (oN.base (by omega)).keep fun g' e => by
          have := (oN.lt g' e).1
          rw [Below.heap_setCell _ _ _ _ (by show g' ≠ w.heap.size + 1 + 1; omega), Below.heap_setCell _ _ _ _ (by show g' ≠ w.heap.size + 1 + 1; omega)]
        obtain ⟨⟨p0, p1⟩, _⟩ := RP
        have OQ : FOwn ouEnc 8 41 w.heap.size ((w9.setCell ⟨w.heap.size + 1 + 1, 0, none⟩ (.int .i64 id)).setCell ⟨w.heap.size + 1 + 1, 1, none⟩ (.slice adN L.length capN)) (.slice (some ⟨E, 0, none⟩) 0 0) [] := (oE.base (by omega)).keep fun g' e => by
          have := (oE.lt g' e).1
          rw [Below.heap_setCell _ _ _ _ (by show g' ≠ w.heap.size + 1 + 1; omega), Below.heap_setCell _ _ _ _ (by show g' ≠ w.heap.size + 1 + 1; omega)]
        go_wp2
        obtain ⟨rfl, rfl⟩ := hN.out
        refine bodyPost_ret (v := .tuple #[.agg #[.int .i64 id, .slice adN D.length capN], .slice (some ⟨E, 0, none⟩) 0 0]) (by simp [results, Tryz.results54, go_sem, *]) rfl ⟨adN, capN, some ⟨E, 0, none⟩, 0, rfl, OZ, OQ, jN, BZ⟩
      have hgo : goes id L x = true := by unfold goes; rw [hb, hx, decide_eq_true (by omega)]; rfl
      have dq : decide ((L.length : Int) ≤ x.q) = false := decide_eq_false (by omega)
      replace hq : Hid _ := hq
      obtain ⟨T, hT⟩ : ∃ T, afterL id L x = T := ⟨_, rfl⟩
      have hTl : T.length = L.length := by rw [← hT]; exact afterL_len id L x
      have hD2 : Hid (D = T) := by unfold Hid; rw [← hD.out, ← hT]; unfold reactL; rw [hgo]; rfl
      have hO2 : Hid (OO = gatesTo L T L.length ++ (if x.k = 2 then toldTo id T T.length else [])) := by unfold Hid; rw [← hO.out, hTl, ← hT]; unfold reactO; rw [hgo]; rfl
      have hT4 : 1 ≤ T.length ∧ T.length ≤ 4 := by omega
      replace hTl : Hid _ := hTl
      replace hT : Hid _ := hT
      clear hD hO hb hx
      go_upto_region 4 with fail
      clear x0 x1 x2 x3 x4 x5 x6 x7 a0 a1
      refine join_region (fun l l' W' => ∃ (P : Nat) (aT : Option Addr) (cT : Nat) (us : List Value), us.length = 4 ∧ l' = l.take 7 ++ (.pointer (some ⟨P, 0, none⟩) :: (l.drop 8).take 22) ++ us ++ l.drop 34 ∧ BBox W' P id (.slice aT T.length cT) ∧ FOwn ptEnc 11 47 Y2.heap.size W' (.slice aT T.length cT) T ∧ (∀ g_, (Value.slice aT T.length cT).ownBlock = some g_ → g_ ≠ P) ∧ Y2.heap.size ≤ P ∧ Below Y2.heap.size Y2 W') ?_ ?_
      rotate_left
      · intro K2 hT3
        refine wp_region_held (S := fun Y => Below Y2.heap.size Y2 Y) (by kernel_rfl) ?_
        change wpAnyH _ _ _ _ _ _ _ _ (World.drew _)
        have hb0 : Below Y2.heap.size Y2 Y2.drew := (Below.refl _ _).drew
        obtain ⟨u0, hy0⟩ : ∃ y_, y_ = Y2.drew := ⟨_, rfl⟩
        rw [← hy0] at hb0 ⊢
        clear hy0
        refine takeW 0 30 (.agg #[.int .i64 id, .slice ad L.length cap]) rfl rfl (by kernel_rfl) (by kernel_rfl) (by kernel_rfl) (fun _ _ _ h => h) (by kernel_rfl) (by (intro Y hSw; obtain ⟨X0_, X1_⟩ := A0.below hSw A0.lt; go_simp)) (by assumption) ?_
        simp only [List.set_cons_zero, List.set_cons_succ]
        refine takeW 2 32 (.agg #[.int .i64 x.k, .int .i64 x.q, .int .i64 x.r, .int .i64 x.c, .int .i64 x.b, .int .i64 x.p, .int .i64 x.h, .bool x.up]) rfl rfl (by kernel_rfl) (by kernel_rfl) (by kernel_rfl) (fun _ _ _ h => h) (by kernel_rfl) (by (intro Y hSw; obtain ⟨Z0, Z1, Z2, Z3, Z4, Z5, Z6, Z7⟩ := X0.below hSw X0.lt; go_simp)) (by assumption) ?_
        simp only [List.set_cons_zero, List.set_cons_succ]
        refine wpAnyH_all (rs := [1, 4]) (by kernel_rfl) (by simp) ?_
        intro i hi; rcases (by simpa using hi : i = 1 ∨ i = 4) with rfl | rfl
        · refine wpOp_step rfl (fun K hK => ?_)
          rw [if_pos (by kernel_rfl)]
          go_simp
          go_at_call 92
          refine (copS id ad cap L u0 (hv1.below hb0 (hv1.lt ptEnc_len (by omega))) (by omega) hn).mono ?_
          rintro e u1 ⟨aN, cN, rfl, oN, kq⟩
          obtain ⟨gN, rfl, gN1, gN2⟩ := oN.row (by omega)
          have bN : Y2.heap.size ≤ u0.heap.size := hb0.size
          have bU := kq.size
          have hb1 : Below Y2.heap.size Y2 u1 := hb0.trans (kq.mono hb0.size)
          clear kq
          refine hK _ _ ⟨hb1, ?_⟩
          clear hK K hi
          refine wpAnyH_all (rs := [3, 4]) (by kernel_rfl) (by simp) ?_
          intro i hi; rcases (by simpa using hi : i = 3 ∨ i = 4) with rfl | rfl
          · refine wpOp_step rfl (fun K hK => ?_)
            rw [if_pos (by kernel_rfl)]
            go_simp
            go_at_call 93
            refine (inS id cN L x _ gN u1 oN hgo).mono ?_
            rintro e u2 ⟨aT, cT, rfl, oT, jT, kBar, kB⟩
            rw [hT.out] at oT jT ⊢
            have hb2 : Below Y2.heap.size Y2 u2 := hb1.trans (kB.mono bN)
            refine hK _ _ ⟨hb2, ?_⟩
            clear hK K hi
            refine wpAnyH_all (rs := [4]) (by kernel_rfl) (by simp) ?_
            intro i hi; obtain rfl : i = 4 := by simpa using hi
            refine wpOp_step rfl (fun K hK => ?_)
            rw [if_pos (by kernel_rfl)]
            go_simp
            obtain ⟨u3, hy⟩ : ∃ y_, y_ = u2.alloc (Obj.cells #[.int .i64 0, .slice none 0 0] 51) := ⟨_, rfl⟩
            have kq : Below u2.heap.size u2 u3 := by rw [hy]; exact below_new _
            have joT : ∀ g_, (Value.slice aT T.length cT).ownBlock = some g_ → g_ ≠ u2.heap.size := fun g_ e => by have h1 := (oT.lt g_ e).2; omega
            have oT := oT.later kq
            have FP : BBox u3 u2.heap.size 0 (.slice none 0 0) := by rw [hy]; exact BBox.new u2 _ _ _
            have pa : Y2.heap.size ≤ u2.heap.size := hb2.size
            have hb3 : Below Y2.heap.size Y2 u3 := hb2.trans (kq.mono hb2.size)
            rw [← hy]
            clear hy kq
            refine hK _ _ ⟨hb3, ?_⟩
            clear hK K hi
            refine wpAnyH_all (rs := [5]) (by kernel_rfl) (by simp) ?_
            intro i hi; obtain rfl : i = 5 := by simpa using hi
            refine wpOp_step rfl (fun K hK => ?_)
            rw [if_pos (by kernel_rfl)]
            have FQ := FP
            obtain ⟨⟨t0, t1⟩, tf⟩ := FP
            go_simp
            clear t0 t1 tf
            obtain ⟨uf, huf⟩ : ∃ y_, y_ = (u3.setCell ⟨u2.heap.size, 0, none⟩ (.int .i64 id)).setCell ⟨u2.heap.size, 1, none⟩ (.slice aT T.length cT) := ⟨_, rfl⟩
            have FE : BBox uf (u2.heap.size) id (.slice aT T.length cT) := by rw [huf]; exact FQ.put _ _
            have hbf : Below Y2.heap.size Y2 uf := by rw [huf]; exact (hb3.setCell (p := ⟨u2.heap.size, 0, none⟩) pa _).setCell (p := ⟨u2.heap.size, 1, none⟩) pa _
            have oT := oT.keep (w' := uf) (fun g_ e => by rw [huf, Below.heap_setCell _ _ _ _ (by show g_ ≠ u2.heap.size; exact joT g_ e), Below.heap_setCell _ _ _ _ (by show g_ ≠ u2.heap.size; exact joT g_ e)])
            rw [← huf]
            clear huf FQ
            refine hK _ _ ⟨hbf, ?_⟩
            clear hK K hi
            refine wpAnyH_done (by kernel_rfl) ?_ _
            exact hT3.out _ _ ⟨u2.heap.size, aT, cT, [(.agg #[.int .i64 id, .slice ad L.length cap] : Value), .agg #[.int .i64 id, .slice (some ⟨gN, 0, none⟩) L.length cN], (.agg #[.int .i64 x.k, .int .i64 x.q, .int .i64 x.r, .int .i64 x.c, .int .i64 x.b, .int .i64 x.p, .int .i64 x.h, .bool x.up]), .agg #[.int .i64 id, .slice aT T.length cT]], rfl, by kernel_rfl, FE, oT.base bN, joT, pa, hbf⟩
          · refine wpOp_step rfl (fun K hK => ?_)
            rw [if_pos (by kernel_rfl)]
            go_simp
            obtain ⟨u2, hy⟩ : ∃ y_, y_ = u1.alloc (Obj.cells #[.int .i64 0, .slice none 0 0] 51) := ⟨_, rfl⟩
            have kq : Below u1.heap.size u1 u2 := by rw [hy]; exact below_new _
            have joN : ∀ g_, (Value.slice (some ⟨gN, 0, none⟩) L.length cN).ownBlock = some g_ → g_ ≠ u1.heap.size := fun g_ e => by have h1 := (oN.lt g_ e).2; omega
            have oN := oN.later kq
            have FP : BBox u2 u1.heap.size 0 (.slice none 0 0) := by rw [hy]; exact BBox.new u1 _ _ _
            have pa : Y2.heap.size ≤ u1.heap.size := hb1.size
            have hb2 : Below Y2.heap.size Y2 u2 := hb1.trans (kq.mono hb1.size)
            rw [← hy]
            clear hy kq
            refine hK _ _ ⟨hb2, ?_⟩
            clear hK K hi
            refine wpAnyH_all (rs := [3]) (by kernel_rfl) (by simp) ?_
            intro i hi; obtain rfl : i = 3 := by simpa using hi
            refine wpOp_step rfl (fun K hK => ?_)
            rw [if_pos (by kernel_rfl)]
            go_simp
            go_at_call 93
            refine (inS id cN L x _ gN u2 oN hgo).mono ?_
            rintro e u3 ⟨aT, cT, rfl, oT, jT, kBar, kB⟩
            rw [hT.out] at oT jT ⊢
            have joT : ∀ g_, (Value.slice aT T.length cT).ownBlock = some g_ → g_ ≠ u1.heap.size := fun g_ e => by
              have h1 := jT g_ e
              have h2 := FP.lt
              have h3 := joN gN rfl
              omega
            have FP := FP.keep (kBar.block _ FP.lt (fun e => joN gN rfl e.symm))
            have hb3 : Below Y2.heap.size Y2 u3 := hb2.trans (kB.mono bN)
            refine hK _ _ ⟨hb3, ?_⟩
            clear hK K hi
            refine wpAnyH_all (rs := [5]) (by kernel_rfl) (by simp) ?_
            intro i hi; obtain rfl : i = 5 := by simpa using hi
            refine wpOp_step rfl (fun K hK => ?_)
            rw [if_pos (by kernel_rfl)]
            have FQ := FP
            obtain ⟨⟨t0, t1⟩, tf⟩ := FP
            go_simp
            clear t0 t1 tf
            obtain ⟨uf, huf⟩ : ∃ y_, y_ = (u3.setCell ⟨u1.heap.size, 0, none⟩ (.int .i64 id)).setCell ⟨u1.heap.size, 1, none⟩ (.slice aT T.length cT) := ⟨_, rfl⟩
            have FE : BBox uf (u1.heap.size) id (.slice aT T.length cT) := by rw [huf]; exact FQ.put _ _
            have hbf : Below Y2.heap.size Y2 uf := by rw [huf]; exact (hb3.setCell (p := ⟨u1.heap.size, 0, none⟩) pa _).setCell (p := ⟨u1.heap.size, 1, none⟩) pa _
            have oT := oT.keep (w' := uf) (fun g_ e => by rw [huf, Below.heap_setCell _ _ _ _ (by show g_ ≠ u1.heap.size; exact joT g_ e), Below.heap_setCell _ _ _ _ (by show g_ ≠ u1.heap.size; exact joT g_ e)])
            rw [← huf]
            clear huf FQ
            refine hK _ _ ⟨hbf, ?_⟩
            clear hK K hi
            refine wpAnyH_done (by kernel_rfl) ?_ _
            exact hT3.out _ _ ⟨u1.heap.size, aT, cT, [(.agg #[.int .i64 id, .slice ad L.length cap] : Value), .agg #[.int .i64 id, .slice (some ⟨gN, 0, none⟩) L.length cN], (.agg #[.int .i64 x.k, .int .i64 x.q, .int .i64 x.r, .int .i64 x.c, .int .i64 x.b, .int .i64 x.p, .int .i64 x.h, .bool x.up]), .agg #[.int .i64 id, .slice aT T.length cT]], rfl, by kernel_rfl, FE, oT.base bN, joT, pa, hbf⟩
        · refine wpOp_step rfl (fun K hK => ?_)
          rw [if_pos (by kernel_rfl)]
          go_simp
          obtain ⟨u1, hy⟩ : ∃ y_, y_ = u0.alloc (Obj.cells #[.int .i64 0, .slice none 0 0] 51) := ⟨_, rfl⟩
          have kq : Below u0.heap.size u0 u1 := by rw [hy]; exact below_new _
          have FP : BBox u1 u0.heap.size 0 (.slice none 0 0) := by rw [hy]; exact BBox.new u0 _ _ _
          have pa : Y2.heap.size ≤ u0.heap.size := hb0.size
          have hb1 : Below Y2.heap.size Y2 u1 := hb0.trans (kq.mono hb0.size)
          rw [← hy]
          clear hy kq
          refine hK _ _ ⟨hb1, ?_⟩
          clear hK K hi
          refine wpAnyH_all (rs := [1]) (by kernel_rfl) (by simp) ?_
          intro i hi; obtain rfl : i = 1 := by simpa using hi
          refine wpOp_step rfl (fun K hK => ?_)
          rw [if_pos (by kernel_rfl)]
          go_simp
          go_at_call 92
          refine (copS id ad cap L u1 (hv1.below hb1 (hv1.lt ptEnc_len (by omega))) (by omega) hn).mono ?_
          rintro e u2 ⟨aN, cN, rfl, oN, kq⟩
          obtain ⟨gN, rfl, gN1, gN2⟩ := oN.row (by omega)
          have bN : Y2.heap.size ≤ u1.heap.size := hb1.size
          have bU := kq.size
          have joN : ∀ g_, (Value.slice (some ⟨gN, 0, none⟩) L.length cN).ownBlock = some g_ → g_ ≠ u0.heap.size := fun g_ e => by have h1 := (oN.lt g_ e).1; have h2 := FP.lt; omega
          have FP := FP.below kq FP.lt
          have hb2 : Below Y2.heap.size Y2 u2 := hb1.trans (kq.mono hb1.size)
          clear kq
          refine hK _ _ ⟨hb2, ?_⟩
          clear hK K hi
          refine wpAnyH_all (rs := [3]) (by kernel_rfl) (by simp) ?_
          intro i hi; obtain rfl : i = 3 := by simpa using hi
          refine wpOp_step rfl (fun K hK => ?_)
          rw [if_pos (by kernel_rfl)]
          go_simp
          go_at_call 93
          refine (inS id cN L x _ gN u2 oN hgo).mono ?_
          rintro e u3 ⟨aT, cT, rfl, oT, jT, kBar, kB⟩
          rw [hT.out] at oT jT ⊢
          have joT : ∀ g_, (Value.slice aT T.length cT).ownBlock = some g_ → g_ ≠ u0.heap.size := fun g_ e => by
            have h1 := jT g_ e
            have h2 := FP.lt
            have h3 := joN gN rfl
            omega
          have FP := FP.keep (kBar.block _ FP.lt (fun e => joN gN rfl e.symm))
          have hb3 : Below Y2.heap.size Y2 u3 := hb2.trans (kB.mono bN)
          refine hK _ _ ⟨hb3, ?_⟩
          clear hK K hi
          refine wpAnyH_all (rs := [5]) (by kernel_rfl) (by simp) ?_
          intro i hi; obtain rfl : i = 5 := by simpa using hi
          refine wpOp_step rfl (fun K hK => ?_)
          rw [if_pos (by kernel_rfl)]
          have FQ := FP
          obtain ⟨⟨t0, t1⟩, tf⟩ := FP
          go_simp
          clear t0 t1 tf
          obtain ⟨uf, huf⟩ : ∃ y_, y_ = (u3.setCell ⟨u0.heap.size, 0, none⟩ (.int .i64 id)).setCell ⟨u0.heap.size, 1, none⟩ (.slice aT T.length cT) := ⟨_, rfl⟩
          have FE : BBox uf (u0.heap.size) id (.slice aT T.length cT) := by rw [huf]; exact FQ.put _ _
          have hbf : Below Y2.heap.size Y2 uf := by rw [huf]; exact (hb3.setCell (p := ⟨u0.heap.size, 0, none⟩) pa _).setCell (p := ⟨u0.heap.size, 1, none⟩) pa _
          have oT := oT.keep (w' := uf) (fun g_ e => by rw [huf, Below.heap_setCell _ _ _ _ (by show g_ ≠ u0.heap.size; exact joT g_ e), Below.heap_setCell _ _ _ _ (by show g_ ≠ u0.heap.size; exact joT g_ e)])
          rw [← huf]
          clear huf FQ
          refine hK _ _ ⟨hbf, ?_⟩
          clear hK K hi
          refine wpAnyH_done (by kernel_rfl) ?_ _
          exact hT3.out _ _ ⟨u0.heap.size, aT, cT, [(.agg #[.int .i64 id, .slice ad L.length cap] : Value), .agg #[.int .i64 id, .slice (some ⟨gN, 0, none⟩) L.length cN], (.agg #[.int .i64 x.k, .int .i64 x.q, .int .i64 x.r, .int .i64 x.c, .int .i64 x.b, .int .i64 x.p, .int .i64 x.h, .bool x.up]), .agg #[.int .i64 id, .slice aT T.length cT]], rfl, by kernel_rfl, FE, oT.base bN, joT, pa, hbf⟩
      rintro l' Y4 ⟨P, aT, cT, us, hul, rfl, NP, oT, jT, pT, k4⟩
      obtain ⟨u30, us, rfl⟩ : ∃ a b, us = a :: b := List.exists_cons_of_length_eq_add_one hul
      replace hul := Nat.succ.inj hul
      obtain ⟨u31, us, rfl⟩ : ∃ a b, us = a :: b := List.exists_cons_of_length_eq_add_one hul
      replace hul := Nat.succ.inj hul
      obtain ⟨u32, us, rfl⟩ : ∃ a b, us = a :: b := List.exists_cons_of_length_eq_add_one hul
      replace hul := Nat.succ.inj hul
      obtain ⟨u33, us, rfl⟩ : ∃ a b, us = a :: b := List.exists_cons_of_length_eq_add_one hul
      replace hul := Nat.succ.inj hul
      obtain rfl : us = [] := List.eq_nil_of_length_eq_zero hul
      clear hul
      simp only [List.take, List.drop, List.cons_append, List.nil_append]
      have z4 := k4.size
      have A0 := A0.below k4 A0.lt
      have X0 := X0.below k4 X0.lt
      have R0 := R0.below k4 R0.lt
      have hv1 := hv1.below k4 (hv1.lt ptEnc_len (by omega))
      have oE := oE.later k4
      have BY := BY.trans (k4.mono BY.size)
      clear k4
      have NP := NP.at_
      have vT : FView ptEnc Y4 aT T := oT.view.2
      have vtb : ∀ a, aT = some a → 0 < T.length → Y2.heap.size ≤ a.block ∧ a.block < Y4.heap.size := fun a e p => by
        obtain ⟨g_, e1, e2, e3⟩ := oT.row p
        rw [e1] at e
        cases e
        exact ⟨e2, e3⟩
      have vab : ∀ a, ad = some a → 0 < L.length → a.block < w.heap.size := hvb
      have eE := (oE.lt E rfl).2
      have pP := NP.lt
      have sE : ∀ g_, (Value.slice (some ⟨E, 0, none⟩) ([] : List Ou).length 0).ownBlock = some g_ → g_ = E ∨ Y4.heap.size ≤ g_ := fun g_ e => .inl (by simpa [Value.ownBlock] using e.symm)
      have EY2 : E < Y2.heap.size := by omega
      go_wp2
      go_loopw [6, 8] (fun v i wr => ∃ k : Nat, k ≤ L.length ∧ i = .int .i64 (k : Int) ∧ FOwn ouEnc 8 41 E wr v (gatesTo L T k) ∧ (∀ g_, v.ownBlock = some g_ → g_ = E ∨ Y4.heap.size ≤ g_) ∧ Bar E Y4.heap.size Y4 wr ∧ Below w.heap.size w wr) (fun _ i _ => L.length - (intOf i).toNat)
      case atStart => exact ⟨0, Nat.zero_le _, rfl, oE, sE, Bar.of (Below.refl _ _), BY⟩
      case round =>
        obtain ⟨k, hk, rfl, O, sO, hBar, B5⟩ := hrel
        obtain ⟨adk, capk, rfl⟩ := O.open_
        have z5 := hBar.size
        have A5 := A0.bar hBar A0.lt (by omega)
        have P5 := NP.bar hBar NP.lt (by omega)
        have cc_ := A5
        obtain ⟨a0, a1⟩ := cc_
        by_cases hlt : k < L.length
        · have hltT : k < T.length := by rw [hTl.out]; exact hlt
          have hv5 : FView ptEnc wr ad L := hv1.carry fun a e p => hBar.block _ (by have := vab a e p; omega) (by have := vab a e p; omega)
          have vT5 : FView ptEnc wr aT T := vT.carry fun a e p => hBar.block _ (vtb a e p).2 (by have := (vtb a e p).1; omega)
          obtain ⟨bk, off, rfl, _⟩ := hv5 (by omega)
          obtain ⟨bt_, ot_, rfl, _⟩ := vT5 (by omega)
          obtain ⟨h, hh⟩ : ∃ h, T.getD k Pt.nil = h := ⟨_, rfl⟩
          obtain ⟨q_, hg⟩ : ∃ g, L.getD k Pt.nil = g := ⟨_, rfl⟩
          have hhc : ∀ Y, Below wr.heap.size wr Y → PtAtO Y bt_ (ot_ + k * 11) h := fun Y hY => by rw [← hh]; exact ptAtO_of ((vT5.below hY (vT5.lt ptEnc_len (by omega))).at_ ptEnc_len Pt.nil hltT)
          have hgc : ∀ Y, Below wr.heap.size wr Y → PtAtO Y bk (off + k * 11) q_ := fun Y hY => by rw [← hg]; exact ptAtO_of ((hv5.below hY (hv5.lt ptEnc_len (by omega))).at_ ptEnc_len Pt.nil hlt)
          replace hh : Hid _ := hh
          replace hg : Hid _ := hg
          have gl := gates_len L T k
          obtain ⟨G, hG⟩ : ∃ G, gatesTo L T k = G := ⟨_, rfl⟩
          rw [hG] at O gl sO ⊢
          replace hG : Hid _ := hG
          go_upto_region 8 with fail
          clear a0 a1 hv5 vT5
          by_cases ho : h.op = q_.op
          · have hN : Hid (gatesTo L T (k + 1) = G) := by unfold Hid; rw [gates_yes hh.out hg.out ho, hG.out]
            replace ho : Hid _ := ho
            refine wp_region_held (S := fun Y => Below wr.heap.size wr Y) (by kernel_rfl) ?_
            change wpAnyH _ _ _ _ _ _ _ _ (World.drew _)
            have hb0 : Below wr.heap.size wr wr.drew := (Below.refl _ _).drew
            obtain ⟨u0, hy0⟩ : ∃ y_, y_ = wr.drew := ⟨_, rfl⟩
            rw [← hy0] at hb0 ⊢
            clear hy0
            refine takeW 0 41 (.pointer (some ⟨P, 1, none⟩)) rfl rfl (by kernel_rfl) (by kernel_rfl) (by kernel_rfl) (fun _ _ _ h => h) (by kernel_rfl) (by (intro w hSw; go_simp)) (by assumption) ?_
            simp only [List.set_cons_zero, List.set_cons_succ]
            refine takeW 1 42 (.slice (some ⟨bt_, ot_, none⟩) T.length cT) rfl rfl (by kernel_rfl) (by kernel_rfl) (by kernel_rfl) (fun _ _ _ h => h) (by kernel_rfl) (by (intro Y hSw; obtain ⟨X0_, X1_⟩ := P5.below hSw P5.lt; go_simp)) (by assumption) ?_
            simp only [List.set_cons_zero, List.set_cons_succ]
            refine takeW 2 43 (.int .i64 (k : Int)) rfl rfl (by kernel_rfl) (by kernel_rfl) (by kernel_rfl) (fun _ _ _ h => h) (by kernel_rfl) (by (intro w hSw; go_simp)) (by assumption) ?_
            simp only [List.set_cons_zero, List.set_cons_succ]
            refine takeW 3 44 (.pointer (some ⟨bt_, ot_ + k * 11, none⟩)) rfl rfl (by kernel_rfl) (by kernel_rfl) (by kernel_rfl) (fun _ _ _ h => h) (by kernel_rfl) (by (intro Y hSw; go_simp; try omega)) (by assumption) ?_
            simp only [List.set_cons_zero, List.set_cons_succ]
            refine takeW 4 45 (.pointer (some ⟨bt_, ot_ + k * 11 + 10, none⟩)) rfl rfl (by kernel_rfl) (by kernel_rfl) (by kernel_rfl) (fun _ _ _ h => h) (by kernel_rfl) (by (intro w hSw; go_simp)) (by assumption) ?_
            simp only [List.set_cons_zero, List.set_cons_succ]
            refine takeW 5 46 (.bool h.op) rfl rfl (by kernel_rfl) (by kernel_rfl) (by kernel_rfl) (fun _ _ _ h => h) (by kernel_rfl) (by (intro Y hSw; obtain ⟨X0, X1, X2, X3, X4, X5, X6, X7, X8, X9, X10⟩ := hhc Y hSw; go_simp)) (by assumption) ?_
            simp only [List.set_cons_zero, List.set_cons_succ]
            refine takeW 6 47 (.pointer (some ⟨w.heap.size, 1, none⟩)) rfl rfl (by kernel_rfl) (by kernel_rfl) (by kernel_rfl) (fun _ _ _ h => h) (by kernel_rfl) (by (intro w hSw; go_simp)) (by assumption) ?_
            simp only [List.set_cons_zero, List.set_cons_succ]
            refine takeW 7 48 (.slice (some ⟨bk, off, none⟩) L.length cap) rfl rfl (by kernel_rfl) (by kernel_rfl) (by kernel_rfl) (fun _ _ _ h => h) (by kernel_rfl) (by (intro Y hSw; obtain ⟨X0_, X1_⟩ := A5.below hSw A5.lt; go_simp)) (by assumption) ?_
            simp only [List.set_cons_zero, List.set_cons_succ]
            refine takeW 8 49 (.int .i64 (k : Int)) rfl rfl (by kernel_rfl) (by kernel_rfl) (by kernel_rfl) (fun _ _ _ h => h) (by kernel_rfl) (by (intro w hSw; go_simp)) (by assumption) ?_
            simp only [List.set_cons_zero, List.set_cons_succ]
            refine takeW 9 50 (.pointer (some ⟨bk, off + k * 11, none⟩)) rfl rfl (by kernel_rfl) (by kernel_rfl) (by kernel_rfl) (fun _ _ _ h => h) (by kernel_rfl) (by (intro Y hSw; go_simp; try omega)) (by assumption) ?_
            simp only [List.set_cons_zero, List.set_cons_succ]
            refine takeW 10 51 (.pointer (some ⟨bk, off + k * 11 + 10, none⟩)) rfl rfl (by kernel_rfl) (by kernel_rfl) (by kernel_rfl) (fun _ _ _ h => h) (by kernel_rfl) (by (intro w hSw; go_simp)) (by assumption) ?_
            simp only [List.set_cons_zero, List.set_cons_succ]
            refine takeW 11 52 (.bool q_.op) rfl rfl (by kernel_rfl) (by kernel_rfl) (by kernel_rfl) (fun _ _ _ h => h) (by kernel_rfl) (by (intro Y hSw; obtain ⟨X0, X1, X2, X3, X4, X5, X6, X7, X8, X9, X10⟩ := hgc Y hSw; go_simp)) (by assumption) ?_
            simp only [List.set_cons_zero, List.set_cons_succ]
            refine takeW 12 53 (.bool false) rfl rfl (by kernel_rfl) (by kernel_rfl) (by kernel_rfl) (fun _ _ _ h => h) (by kernel_rfl) (by (intro Y hSw; go_simp; exact ho.out)) (by assumption) ?_
            simp only [List.set_cons_zero, List.set_cons_succ]
            refine wpAnyH_done (by kernel_rfl) ?_ _
            have hBar2 : Bar E Y4.heap.size Y4 u0 := ⟨Nat.le_trans hBar.size hb0.size, fun q hq hne => (hb0.block q (by omega)).trans (hBar.block q hq hne)⟩
            go_wp2
            go_roundw
            case rel => exact ⟨k + 1, by omega, by go_num, by rw [hN.out]; exact O.later hb0, sO, hBar2, B5.trans (hb0.mono B5.size)⟩
            case measure => simp [intOf]; omega
          · have hN : Hid (gatesTo L T (k + 1) = G ++ [gateO k h.op]) := by unfold Hid; rw [gates_no hh.out hg.out ho, hG.out]
            replace ho : Hid _ := ho
            refine wp_region_held (S := fun Y => Below wr.heap.size wr Y) (by kernel_rfl) ?_
            change wpAnyH _ _ _ _ _ _ _ _ (World.drew _)
            have hb0 : Below wr.heap.size wr wr.drew := (Below.refl _ _).drew
            obtain ⟨u0, hy0⟩ : ∃ y_, y_ = wr.drew := ⟨_, rfl⟩
            rw [← hy0] at hb0 ⊢
            clear hy0
            refine takeW 0 41 (.pointer (some ⟨P, 1, none⟩)) rfl rfl (by kernel_rfl) (by kernel_rfl) (by kernel_rfl) (fun _ _ _ h => h) (by kernel_rfl) (by (intro w hSw; go_simp)) (by assumption) ?_
            simp only [List.set_cons_zero, List.set_cons_succ]
            refine takeW 1 42 (.slice (some ⟨bt_, ot_, none⟩) T.length cT) rfl rfl (by kernel_rfl) (by kernel_rfl) (by kernel_rfl) (fun _ _ _ h => h) (by kernel_rfl) (by (intro Y hSw; obtain ⟨X0_, X1_⟩ := P5.below hSw P5.lt; go_simp)) (by assumption) ?_
            simp only [List.set_cons_zero, List.set_cons_succ]
            refine takeW 2 43 (.int .i64 (k : Int)) rfl rfl (by kernel_rfl) (by kernel_rfl) (by kernel_rfl) (fun _ _ _ h => h) (by kernel_rfl) (by (intro w hSw; go_simp)) (by assumption) ?_
            simp only [List.set_cons_zero, List.set_cons_succ]
            refine takeW 3 44 (.pointer (some ⟨bt_, ot_ + k * 11, none⟩)) rfl rfl (by kernel_rfl) (by kernel_rfl) (by kernel_rfl) (fun _ _ _ h => h) (by kernel_rfl) (by (intro Y hSw; go_simp; try omega)) (by assumption) ?_
            simp only [List.set_cons_zero, List.set_cons_succ]
            refine takeW 4 45 (.pointer (some ⟨bt_, ot_ + k * 11 + 10, none⟩)) rfl rfl (by kernel_rfl) (by kernel_rfl) (by kernel_rfl) (fun _ _ _ h => h) (by kernel_rfl) (by (intro w hSw; go_simp)) (by assumption) ?_
            simp only [List.set_cons_zero, List.set_cons_succ]
            refine takeW 5 46 (.bool h.op) rfl rfl (by kernel_rfl) (by kernel_rfl) (by kernel_rfl) (fun _ _ _ h => h) (by kernel_rfl) (by (intro Y hSw; obtain ⟨X0, X1, X2, X3, X4, X5, X6, X7, X8, X9, X10⟩ := hhc Y hSw; go_simp)) (by assumption) ?_
            simp only [List.set_cons_zero, List.set_cons_succ]
            refine takeW 6 47 (.pointer (some ⟨w.heap.size, 1, none⟩)) rfl rfl (by kernel_rfl) (by kernel_rfl) (by kernel_rfl) (fun _ _ _ h => h) (by kernel_rfl) (by (intro w hSw; go_simp)) (by assumption) ?_
            simp only [List.set_cons_zero, List.set_cons_succ]
            refine takeW 7 48 (.slice (some ⟨bk, off, none⟩) L.length cap) rfl rfl (by kernel_rfl) (by kernel_rfl) (by kernel_rfl) (fun _ _ _ h => h) (by kernel_rfl) (by (intro Y hSw; obtain ⟨X0_, X1_⟩ := A5.below hSw A5.lt; go_simp)) (by assumption) ?_
            simp only [List.set_cons_zero, List.set_cons_succ]
            refine takeW 8 49 (.int .i64 (k : Int)) rfl rfl (by kernel_rfl) (by kernel_rfl) (by kernel_rfl) (fun _ _ _ h => h) (by kernel_rfl) (by (intro w hSw; go_simp)) (by assumption) ?_
            simp only [List.set_cons_zero, List.set_cons_succ]
            refine takeW 9 50 (.pointer (some ⟨bk, off + k * 11, none⟩)) rfl rfl (by kernel_rfl) (by kernel_rfl) (by kernel_rfl) (fun _ _ _ h => h) (by kernel_rfl) (by (intro Y hSw; go_simp; try omega)) (by assumption) ?_
            simp only [List.set_cons_zero, List.set_cons_succ]
            refine takeW 10 51 (.pointer (some ⟨bk, off + k * 11 + 10, none⟩)) rfl rfl (by kernel_rfl) (by kernel_rfl) (by kernel_rfl) (fun _ _ _ h => h) (by kernel_rfl) (by (intro w hSw; go_simp)) (by assumption) ?_
            simp only [List.set_cons_zero, List.set_cons_succ]
            refine takeW 11 52 (.bool q_.op) rfl rfl (by kernel_rfl) (by kernel_rfl) (by kernel_rfl) (fun _ _ _ h => h) (by kernel_rfl) (by (intro Y hSw; obtain ⟨X0, X1, X2, X3, X4, X5, X6, X7, X8, X9, X10⟩ := hgc Y hSw; go_simp)) (by assumption) ?_
            simp only [List.set_cons_zero, List.set_cons_succ]
            refine takeW 12 53 (.bool true) rfl rfl (by kernel_rfl) (by kernel_rfl) (by kernel_rfl) (fun _ _ _ h => h) (by kernel_rfl) (by (intro Y hSw; go_simp; exact ho.out)) (by assumption) ?_
            simp only [List.set_cons_zero, List.set_cons_succ]
            refine wpAnyH_done (by kernel_rfl) ?_ _
            have hBar2 : Bar E Y4.heap.size Y4 u0 := ⟨Nat.le_trans hBar.size hb0.size, fun q hq hne => (hb0.block q (by omega)).trans (hBar.block q hq hne)⟩
            have B6 := B5.trans (hb0.mono B5.size)
            have z6 := hb0.size
            obtain ⟨c0, c1, c2, c3, c4, c5, c6, c7, c8, c9, c10⟩ := hhc u0 hb0
            obtain ⟨n0, n1⟩ := P5.below hb0 P5.lt
            have V1 := FView.oneO u0 41 (gateO k h.op)
            have O2 : FOwn ouEnc 8 41 E (u0.alloc (Obj.cells #[.int .i64 (gateO k h.op).k, .int .i64 (gateO k h.op).pt, .int .i64 (gateO k h.op).r, .int .i64 (gateO k h.op).c, .int .i64 (gateO k h.op).b, .int .i64 (gateO k h.op).p, .int .i64 (gateO k h.op).h, .bool (gateO k h.op).on] 41)) (.slice adk G.length capk) G := (O.later hb0).later (below_new _)
            unfold gateO at V1 O2
            dsimp only at V1 O2
            go_wp2_with (first | (at_builtin; refine fappL ouEnc_len ouEnc_ones rfl _ _ 61 rfl E 41 i0 (.agg #[.int .i64 0, .int .i64 0, .int .i64 0, .int .i64 0, .int .i64 0, .int .i64 0, .int .i64 0, .bool false]) 64 Tryz.underlying61 hi hz0 hz1 hz2 rfl (by decide) (by decide) (.slice adk G.length capk) G rfl O2 (some ⟨u0.heap.size, 0, none⟩) 1 [(⟨2, (k : Int), 0, 0, 0, 0, 0, h.op⟩ : Ou)] rfl (fun e => by cases e) V1 ?z0 ?z1 ?_) | go_in)
            case z0 => simp; omega
            case z1 => simp; omega
            intro vZ wZ hownZ hgrowZ hoZ
            have gsz := hgrowZ.size
            simp only [World.size_alloc] at gsz
            have sZ : ∀ g_, vZ.ownBlock = some g_ → g_ = E ∨ Y4.heap.size ≤ g_ := fun g_ e => by
              rcases hoZ with q | q
              · exact sO g_ (by rw [← q]; exact e)
              · rw [q] at e
                simp at e
                omega
            have BarZ : Bar E Y4.heap.size Y4 wZ := ⟨by omega, fun q hq hne => (hgrowZ.block q (by simp; omega) (fun e => by have := sO q e.symm; omega)).trans ((Below.heap_alloc _ _ q (by omega)).trans (hBar2.block q hq hne))⟩
            have BZ6 : Below w.heap.size w wZ := (B6.alloc B6.size _).grown hgrowZ (by simp; have := B6.size; omega) (fun g_ e => by have := sO g_ e; omega)
            clear hgrowZ V1 O2 c0 c1 c2 c3 c4 c5 c6 c7 c8 c9 c10 n0 n1 hoZ
            go_wp2
            go_roundw
            case rel => exact ⟨k + 1, by omega, by go_num, by rw [hN.out]; exact hownZ, sZ, BarZ, BZ6⟩
            case measure => simp [intOf]; omega
        · obtain rfl : k = L.length := by omega
          obtain ⟨G, hG⟩ : ∃ G, gatesTo L T L.length = G := ⟨_, rfl⟩
          have gl := gates_len L T L.length
          rw [hG] at O sO gl hO2 ⊢
          replace hO2 : Hid _ := hO2
          clear hG
          have X5 := X0.keep (hBar.block _ X0.lt (by omega))
          have R5 := R0.keep (hBar.block _ R0.lt (by omega))
          have cc_ := X5
          obtain ⟨x0, x1, x2, x3, x4, x5, x6, x7⟩ := cc_
          have cp_ := P5
          obtain ⟨n0, n1⟩ := cp_
          by_cases hk2 : x.k = 2
          · have hO3 : Hid (OO = G ++ toldTo id T T.length) := by unfold Hid; rw [hO2.out, if_pos hk2]
            replace hk2 : Hid _ := hk2
            clear hO2
            have gl4 : G.length ≤ 4 := by omega
            go_upto_region 10 with fail
            go_wp2
            clear x0 x1 x2 x3 x4 x5 x6 x7 n0 n1 a0 a1 A5 P5 X5 R5
            go_loopw [6, 9] (fun v i ws => ∃ k : Nat, k ≤ T.length ∧ i = .int .i64 (k : Int) ∧ FOwn ouEnc 8 41 E ws v (G ++ toldTo id T k) ∧ (∀ g_, v.ownBlock = some g_ → g_ = E ∨ Y4.heap.size ≤ g_) ∧ Bar E Y4.heap.size Y4 ws ∧ Below w.heap.size w ws) (fun _ i _ => T.length - (intOf i).toNat)
            case atStart => exact ⟨0, Nat.zero_le _, rfl, by rw [show toldTo id T 0 = [] from rfl, List.append_nil]; exact O, sO, hBar, B5⟩
            case round =>
              clear O sO hBar B5
              obtain ⟨k, hk, rfl, O, sO, hBar, B5⟩ := hrel
              obtain ⟨adk, capk, rfl⟩ := O.open_
              have z5 := hBar.size
              have P5 := NP.bar hBar NP.lt (by omega)
              have X5 := X0.keep (hBar.block _ X0.lt (by omega))
              have R5 := R0.keep (hBar.block _ R0.lt (by omega))
              have cc_ := X5
              obtain ⟨x0, x1, x2, x3, x4, x5, x6, x7⟩ := cc_
              have dk : (x.k == 2) = true := by simpa using hk2.out
              have cp_ := P5
              obtain ⟨n0, n1⟩ := cp_
              by_cases hlt : k < T.length
              · have vT5 : FView ptEnc wr aT T := vT.carry fun a e p => hBar.block _ (vtb a e p).2 (by have := (vtb a e p).1; omega)
                obtain ⟨bt_, ot_, rfl, _⟩ := vT5 (by omega)
                obtain ⟨h, hh⟩ : ∃ h, T.getD k Pt.nil = h := ⟨_, rfl⟩
                obtain ⟨c0, c1, c2, c3, c4, c5, c6, c7, c8, c9, c10⟩ : PtAtO wr bt_ (ot_ + k * 11) h := by rw [← hh]; exact ptAtO_of (vT5.at_ ptEnc_len Pt.nil hlt)
                replace hh : Hid _ := hh
                have tl := told_len id T k
                obtain ⟨H, hH⟩ : ∃ H, toldTo id T k = H := ⟨_, rfl⟩
                rw [hH] at O tl sO ⊢
                obtain ⟨GH, hGH⟩ : ∃ GH, G ++ H = GH := ⟨_, rfl⟩
                have gh8 : GH.length ≤ 8 := by rw [← hGH, List.length_append]; omega
                rw [hGH] at O sO ⊢
                have hHN : Hid (G ++ toldTo id T k = GH) := by unfold Hid; rw [hH, hGH]
                clear hH hGH
                by_cases ho : h.ro = 2
                · have dr : (h.ro == 2) = true := by simpa using ho
                  obtain ⟨⟨v1, v2, v3, v4⟩, hov⟩ : ∃ v, ownR id T k = v := ⟨_, rfl⟩
                  obtain ⟨hq_, hhq⟩ : ∃ v, hopsR id T = v := ⟨_, rfl⟩
                  have hN : Hid (G ++ toldTo id T (k + 1) = GH ++ [(⟨1, (k : Int), v1, v2, v3, v4, hq_, false⟩ : Ou)]) := by unfold Hid; rw [told_yes hh.out ho, ← List.append_assoc, hHN.out]; unfold toldO; rw [hov, hhq]
                  replace ho : Hid _ := ho
                  replace hov : Hid _ := hov
                  replace hhq : Hid _ := hhq
                  have hiT := hi
                  go_upto_region 14 with fail
                  clear c0 c1 c2 c3 c4 c5 c6 c7 c8 c9 c10 x0 x1 x2 x3 x4 x5 x6 x7 n0 n1 vT5
                  refine wp_region_held (S := fun Y => Bar E Y4.heap.size Y4 Y) (by kernel_rfl) ?_
                  change wpAnyH _ _ _ _ _ _ _ _ (World.drew _)
                  have ha0 : Below wr.heap.size wr wr.drew := (Below.refl _ _).drew
                  obtain ⟨u0, hy0⟩ : ∃ y_, y_ = wr.drew := ⟨_, rfl⟩
                  rw [← hy0] at ha0 ⊢
                  clear hy0
                  have hb0 : Bar E Y4.heap.size Y4 u0 := ⟨Nat.le_trans hBar.size ha0.size, fun q hq hne => (ha0.block q (by omega)).trans (hBar.block q hq hne)⟩
                  refine takeW 0 84 (.slice adk GH.length capk) rfl rfl (by kernel_rfl) (by kernel_rfl) (by kernel_rfl) (fun _ _ _ h => h) (by kernel_rfl) (by (intro w hSw; go_simp)) (by assumption) ?_
                  simp only [List.set_cons_zero, List.set_cons_succ]
                  refine takeW 1 85 (.int .i64 (k : Int)) rfl rfl (by kernel_rfl) (by kernel_rfl) (by kernel_rfl) (fun _ _ _ h => h) (by kernel_rfl) (by (intro w hSw; go_simp)) (by assumption) ?_
                  simp only [List.set_cons_zero, List.set_cons_succ]
                  refine takeW 2 86 (.agg #[.int .i64 id, .slice (some ⟨bt_, ot_, none⟩) T.length cT]) rfl rfl (by kernel_rfl) (by kernel_rfl) (by kernel_rfl) (fun _ _ _ h => h) (by kernel_rfl) (by (intro Y hSw; obtain ⟨X0_, X1_⟩ := NP.bar hSw NP.lt (by omega); go_simp)) (by assumption) ?_
                  simp only [List.set_cons_zero, List.set_cons_succ]
                  refine takeW 3 87 (.int .i64 (k : Int)) rfl rfl (by kernel_rfl) (by kernel_rfl) (by kernel_rfl) (fun _ _ _ h => h) (by kernel_rfl) (by (intro w hSw; go_simp)) (by assumption) ?_
                  simp only [List.set_cons_zero, List.set_cons_succ]
                  refine takeW 5 89 (.agg #[.int .i64 id, .slice (some ⟨bt_, ot_, none⟩) T.length cT]) rfl rfl (by kernel_rfl) (by kernel_rfl) (by kernel_rfl) (fun _ _ _ h => h) (by kernel_rfl) (by (intro Y hSw; obtain ⟨X0_, X1_⟩ := NP.bar hSw NP.lt (by omega); go_simp)) (by assumption) ?_
                  simp only [List.set_cons_zero, List.set_cons_succ]
                  refine wpAnyH_all (rs := [4]) (by kernel_rfl) (by simp) ?_
                  intro i hi; obtain rfl : i = 4 := by simpa using hi
                  refine wpOp_step rfl (fun K hK => ?_)
                  rw [if_pos (by kernel_rfl)]
                  go_simp
                  go_at_call 94
                  refine (ownS id (some ⟨bt_, ot_, none⟩) cT T (k : Int) u0 (vT.carry fun a e p => hb0.block _ (vtb a e p).2 (by have := (vtb a e p).1; omega)) (by omega)).mono ?_
                  rintro e u1 ⟨rfl, kq⟩
                  have ha1 : Below wr.heap.size wr u1 := ha0.trans (kq.mono ha0.size)
                  have hb1 : Bar E Y4.heap.size Y4 u1 := ⟨Nat.le_trans hBar.size ha1.size, fun q hq hne => (ha1.block q (by omega)).trans (hBar.block q hq hne)⟩
                  clear kq
                  rw [hov.out]
                  refine hK _ _ ⟨hb1, ?_⟩
                  clear hK K hi
                  refine wpAnyH_all (rs := [6]) (by kernel_rfl) (by simp) ?_
                  intro i hi; obtain rfl : i = 6 := by simpa using hi
                  refine wpOp_step rfl (fun K hK => ?_)
                  rw [if_pos (by kernel_rfl)]
                  go_simp
                  go_at_call 95
                  refine (hopsS id (some ⟨bt_, ot_, none⟩) cT T u1 (vT.carry fun a e p => hb1.block _ (vtb a e p).2 (by have := (vtb a e p).1; omega)) (by omega)).mono ?_
                  rintro e u2 ⟨rfl, kq⟩
                  have ha2 : Below wr.heap.size wr u2 := ha1.trans (kq.mono ha1.size)
                  have hb2 : Bar E Y4.heap.size Y4 u2 := ⟨Nat.le_trans hBar.size ha2.size, fun q hq hne => (ha2.block q (by omega)).trans (hBar.block q hq hne)⟩
                  clear kq
                  rw [hhq.out]
                  refine hK _ _ ⟨hb2, ?_⟩
                  clear hK K hi
                  refine takeW 7 91 (.agg #[.int .i64 1, .int .i64 (k : Int), .int .i64 v1, .int .i64 v2, .int .i64 v3, .int .i64 v4, .int .i64 hq_, .bool false]) rfl rfl (by kernel_rfl) (by kernel_rfl) (by kernel_rfl) (fun _ _ _ h => h) (by kernel_rfl) (by (intro w hSw; go_simp)) (by assumption) ?_
                  simp only [List.set_cons_zero, List.set_cons_succ]
                  refine wpAnyH_all (rs := [8]) (by kernel_rfl) (by simp) ?_
                  intro i hi; obtain rfl : i = 8 := by simpa using hi
                  refine wpOp_step rfl (fun K_ hK_ => ?_)
                  rw [if_pos (by kernel_rfl)]
                  go_simp
                  obtain ⟨u3, hu3⟩ : ∃ y_, y_ = u2.alloc (Obj.cells #[.int .i64 1, .int .i64 (k : Int), .int .i64 v1, .int .i64 v2, .int .i64 v3, .int .i64 v4, .int .i64 hq_, .bool false] 41) := ⟨_, rfl⟩
                  have V1 : FView ouEnc u3 (some ⟨u2.heap.size, 0, none⟩) [(⟨1, (k : Int), v1, v2, v3, v4, hq_, false⟩ : Ou)] := by rw [hu3]; exact FView.oneO u2 41 ⟨1, (k : Int), v1, v2, v3, v4, hq_, false⟩
                  have kq : Below u2.heap.size u2 u3 := by rw [hu3]; exact below_new _
                  have ha3 : Below wr.heap.size wr u3 := ha2.trans (kq.mono ha2.size)
                  have hb3 : Bar E Y4.heap.size Y4 u3 := ⟨Nat.le_trans hBar.size ha3.size, fun q hq hne => (ha3.block q (by omega)).trans (hBar.block q hq hne)⟩
                  clear kq
                  rw [← hu3]
                  clear hu3
                  generalize u2.heap.size = Ee at V1 ⊢
                  refine hK_ _ _ ⟨hb3, ?_⟩
                  clear hK_ K_ hi
                  have O2 : FOwn ouEnc 8 41 E u3 (.slice adk GH.length capk) GH := O.later ha3
                  have z6 := ha3.size
                  have B6 := B5.trans (ha3.mono B5.size)
                  refine wpAnyH_all (rs := [9]) (by kernel_rfl) (by simp) ?_
                  intro i hi; obtain rfl : i = 9 := by simpa using hi
                  refine wpOp_step rfl (fun K_ hK_ => ?_)
                  rw [if_pos (by kernel_rfl)]
                  refine fapp ouEnc_len ouEnc_ones 93 _ _ 61 rfl rfl E 41 i0 (.agg #[.int .i64 0, .int .i64 0, .int .i64 0, .int .i64 0, .int .i64 0, .int .i64 0, .int .i64 0, .bool false]) 64 Tryz.underlying61 hiT hz0 hz1 hz2 rfl (by decide) (by decide) (.slice adk GH.length capk) GH rfl O2 (some ⟨Ee, 0, none⟩) 1 [(⟨1, (k : Int), v1, v2, v3, v4, hq_, false⟩ : Ou)] rfl (fun e => by cases e) V1 (by simp; omega) (by omega) ?_
                  intro vZ wZ hownZ gZ hoZ
                  have gsz := gZ.size
                  have sZ : ∀ g_, vZ.ownBlock = some g_ → g_ = E ∨ Y4.heap.size ≤ g_ := fun g_ e => by
                    rcases hoZ with q | q
                    · exact sO g_ (by rw [← q]; exact e)
                    · rw [q] at e
                      simp at e
                      omega
                  have BarZ : Bar E Y4.heap.size Y4 wZ := ⟨by omega, fun q hq hne => (gZ.block q (by omega) (fun e => by have := sO q e.symm; omega)).trans (hb3.block q hq hne)⟩
                  have BZ6 : Below w.heap.size w wZ := B6.grown gZ B6.size (fun g_ e => by have := sO g_ e; omega)
                  clear gZ V1 O2 hoZ
                  simp only [List.set_cons_zero, List.set_cons_succ]
                  refine hK_ _ _ ⟨BarZ, ?_⟩
                  clear hK_ K_ hi
                  refine takeW 10 6 vZ rfl rfl (by kernel_rfl) (by kernel_rfl) (by kernel_rfl) (fun _ _ _ h => h) (by kernel_rfl) (by (intro w hSw; go_simp)) (by assumption) ?_
                  simp only [List.set_cons_zero, List.set_cons_succ]
                  refine wpAnyH_done (by kernel_rfl) ?_ _
                  clear O ha0 ha1 ha2 ha3 hb0 hb1 hb2 hb3
                  go_wp2
                  go_roundw
                  case rel => exact ⟨k + 1, by omega, by go_num, by rw [hN.out]; exact hownZ, sZ, BarZ, BZ6⟩
                  case measure => simp [intOf]; omega
                · have dr : (h.ro == 2) = false := by simpa using ho
                  have hN : Hid (G ++ toldTo id T (k + 1) = GH) := by unfold Hid; rw [told_no hh.out ho, hHN.out]
                  replace ho : Hid _ := ho
                  go_wp2
                  go_roundw
                  case rel => exact ⟨k + 1, by omega, by go_num, by rw [hN.out]; exact O, sO, hBar, B5⟩
                  case measure => simp [intOf]; omega
              · obtain rfl : k = T.length := by omega
                obtain ⟨Z, hZ⟩ : ∃ Z, G ++ toldTo id T T.length = Z := ⟨_, rfl⟩
                rw [hZ] at O sO hO3 ⊢
                replace hO3 : Hid _ := hO3
                clear hZ
                go_upto_region 15 with fail
                clear x0 x1 x2 x3 x4 x5 x6 x7 n0 n1
                have OT : FOwn ptEnc 11 47 Y2.heap.size wr (.slice aT T.length cT) T := oT.keep fun g_ e => hBar.block g_ (oT.lt g_ e).2 (by have := (oT.lt g_ e).1; omega)
                have JJ : ∀ g_, (Value.slice adk (Z).length capk).ownBlock = some g_ → (Value.slice aT T.length cT).ownBlock ≠ some g_ := fun g_ e e2 => by have h1 := sO g_ e; have h2 := oT.lt g_ e2; omega
                have RP := R5.put id (.slice aT T.length cT)
                have S8 : w.heap.size + 1 + 1 < wr.heap.size := R5.lt
                obtain ⟨⟨r0, r1⟩, rf⟩ := R5
                have BZ := (B5.setCell (p := ⟨w.heap.size + 1 + 1, 0, none⟩) (by show _ ≤ w.heap.size + 1 + 1; omega) (.int .i64 id)).setCell (p := ⟨w.heap.size + 1 + 1, 1, none⟩) (by show _ ≤ w.heap.size + 1 + 1; omega) (.slice aT T.length cT)
                have OZ : FOwn ptEnc 11 47 w.heap.size ((wr.setCell ⟨w.heap.size + 1 + 1, 0, none⟩ (.int .i64 id)).setCell ⟨w.heap.size + 1 + 1, 1, none⟩ (.slice aT T.length cT)) (.slice aT T.length cT) T := (OT.base (by omega)).keep fun g' e => by
                  have := (OT.lt g' e).1
                  rw [Below.heap_setCell _ _ _ _ (by show g' ≠ w.heap.size + 1 + 1; omega), Below.heap_setCell _ _ _ _ (by show g' ≠ w.heap.size + 1 + 1; omega)]
                have OQ : FOwn ouEnc 8 41 w.heap.size ((wr.setCell ⟨w.heap.size + 1 + 1, 0, none⟩ (.int .i64 id)).setCell ⟨w.heap.size + 1 + 1, 1, none⟩ (.slice aT T.length cT)) (.slice adk (Z).length capk) (Z) := (O.base (by omega)).keep fun g' e => by
                  have := (O.lt g' e).1
                  rw [Below.heap_setCell _ _ _ _ (by show g' ≠ w.heap.size + 1 + 1; omega), Below.heap_setCell _ _ _ _ (by show g' ≠ w.heap.size + 1 + 1; omega)]
                obtain ⟨⟨p0, p1⟩, _⟩ := RP
                obtain ⟨n0, n1⟩ := P5
                go_wp2
                refine bodyPost_ret (v := .tuple #[.agg #[.int .i64 id, .slice aT T.length cT], .slice adk (Z).length capk]) (by simp [results, Tryz.results54, go_sem, *]) rfl ⟨aT, cT, adk, capk, by rw [hD2.out, hO3.out], by rw [hD2.out]; exact OZ, by rw [hO3.out]; exact OQ, by rw [hD2.out, hO3.out]; exact JJ, BZ⟩
          · have dk : (x.k == 2) = false := by simpa using hk2
            have hO3 : Hid (OO = G) := by unfold Hid; rw [hO2.out, if_neg hk2, List.append_nil]
            have d0 : decide ((0 : Int) < (T.length : Int)) = true := decide_eq_true (by omega)
            have d0' : decide (0 < T.length) = true := decide_eq_true (by omega)
            replace hk2 : Hid _ := hk2
            clear hO2
            go_upto_region 10 with fail
            go_wp2
            refine wp_loop_rounds 1 ?_; rw [rounds_succ]
            go_upto_region 15 with fail
            clear x0 x1 x2 x3 x4 x5 x6 x7 n0 n1
            have OT : FOwn ptEnc 11 47 Y2.heap.size wr (.slice aT T.length cT) T := oT.keep fun g_ e => hBar.block g_ (oT.lt g_ e).2 (by have := (oT.lt g_ e).1; omega)
            have JJ : ∀ g_, (Value.slice adk (G).length capk).ownBlock = some g_ → (Value.slice aT T.length cT).ownBlock ≠ some g_ := fun g_ e e2 => by have h1 := sO g_ e; have h2 := oT.lt g_ e2; omega
            have RP := R5.put id (.slice aT T.length cT)
            have S8 : w.heap.size + 1 + 1 < wr.heap.size := R5.lt
            obtain ⟨⟨r0, r1⟩, rf⟩ := R5
            have BZ := (B5.setCell (p := ⟨w.heap.size + 1 + 1, 0, none⟩) (by show _ ≤ w.heap.size + 1 + 1; omega) (.int .i64 id)).setCell (p := ⟨w.heap.size + 1 + 1, 1, none⟩) (by show _ ≤ w.heap.size + 1 + 1; omega) (.slice aT T.length cT)
            have OZ : FOwn ptEnc 11 47 w.heap.size ((wr.setCell ⟨w.heap.size + 1 + 1, 0, none⟩ (.int .i64 id)).setCell ⟨w.heap.size + 1 + 1, 1, none⟩ (.slice aT T.length cT)) (.slice aT T.length cT) T := (OT.base (by omega)).keep fun g' e => by
              have := (OT.lt g' e).1
              rw [Below.heap_setCell _ _ _ _ (by show g' ≠ w.heap.size + 1 + 1; omega), Below.heap_setCell _ _ _ _ (by show g' ≠ w.heap.size + 1 + 1; omega)]
            have OQ : FOwn ouEnc 8 41 w.heap.size ((wr.setCell ⟨w.heap.size + 1 + 1, 0, none⟩ (.int .i64 id)).setCell ⟨w.heap.size + 1 + 1, 1, none⟩ (.slice aT T.length cT)) (.slice adk (G).length capk) (G) := (O.base (by omega)).keep fun g' e => by
              have := (O.lt g' e).1
              rw [Below.heap_setCell _ _ _ _ (by show g' ≠ w.heap.size + 1 + 1; omega), Below.heap_setCell _ _ _ _ (by show g' ≠ w.heap.size + 1 + 1; omega)]
            obtain ⟨⟨p0, p1⟩, _⟩ := RP
            obtain ⟨n0, n1⟩ := P5
            go_wp2
            refine bodyPost_ret (v := .tuple #[.agg #[.int .i64 id, .slice aT T.length cT], .slice adk (G).length capk]) (by simp [results, Tryz.results54, go_sem, *]) rfl ⟨aT, cT, adk, capk, by rw [hD2.out, hO3.out], by rw [hD2.out]; exact OZ, by rw [hO3.out]; exact OQ, by rw [hD2.out, hO3.out]; exact JJ, BZ⟩

end Go.Proofs.YthgcbihhdbpbdaaGreatDoor
