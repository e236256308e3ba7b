/- spec.React, walked. How much is said. What a log makes and says. The judges, in plain words. slices.Equal of what comes in, what goes out, and flags. spec.BridgeNew, walked. spec.l14Minds, spec.l15Who, walked. spec.BoxOk, walked. Boxes of one size; both Released, walked. The rules of the judge: who is paired, who has Line. A region by its states; rows of different things. impl.numFits, slices.Clone of In, journalOf, mindingOf, walked. spec.l12Copy, spec.Note, walked. spec.l14Copy: its first statement. spec.l14Copy: how far its first statement is. Boxes that may be written; boxes that a call owns. What is held while gates listen. -/
import Derived.Test.YtnpiljegdiconaaGreatZv2
import Derived.Test.YtnpiljegdiconaaGreatRows
import Derived.WalkKit
import Derived.ProofKit
import Derived.OpenShut
import Derived.ShutString
import Derived.ChangeOld
import Derived.Below
import Derived.Deep.QuietTactic
import Derived.BigQuiet
import Derived.WalkSmall
import Derived.Laws.OwnMore
import Derived.WalkSpells
import Derived.WalkLawsBesides
import Derived.Deep.Cut
import Derived.Maps.AppendAt
import Derived.Test.YtnpiljegdiconaaGreatRe3
import Derived.Test.YtnpiljegdiconaaGreatZv1
import Derived.Test.YtnpiljegdiconaaGreatMd12
import Derived.Test.YtnpiljegdiconaaGreatBr9
import Derived.Test.YtnpiljegdiconaaGreatIs1
import Derived.Test.YtnpiljegdiconaaGreatBxd1
import Derived.Test.YtnpiljegdiconaaGreatGa1
import Derived.Laws.StructEq
import Derived.Test.YtnpiljegdiconaaGreatTakes
import Derived.Deep.RegionHeld
import Derived.Test.YtnpiljegdiconaaGreatFlatApp
import Derived.Test.YtnpiljegdiconaaGreatMi1
import Derived.Test.YtnpiljegdiconaaGreatIs2
import Derived.Test.YtnpiljegdiconaaGreatRe1
import Derived.Test.YtnpiljegdiconaaGreatMd0
namespace Go.Proofs.YtnpiljegdiconaaGreat
open Go.ChangeShapes Go.WideShapes Go.ChangeAt Go.RowKit
open Go.ChangeMaps (open_string shut_string)
set_option linter.unusedVariables false
set_option maxRecDepth 100000

theorem inS (id : Int) (cap : Nat) (L : List Pt) (x : Ik) (base g : Nat) (w : World) (hr : FOwn ptEnc 11 109 base w (.slice (some ⟨g, 0, none⟩) L.length cap) L) (hg : goes id L x = true) :
    Calls Tryz.prog 136 #[.agg #[.int .i64 id, .slice (some ⟨g, 0, none⟩) L.length cap], .agg #[.int .i64 x.k, .int .i64 x.q, .int .i64 x.r, .int .i64 x.c, .int .i64 x.b, .int .i64 x.p, .int .i64 x.h, .bool x.up]] w fun e w' => ∃ ad' cap', e = .returned (.agg #[.int .i64 id, .slice ad' (afterL id L x).length cap']) ∧ FOwn ptEnc 11 109 base w' (.slice ad' (afterL id L x).length cap') (afterL id L x) ∧ (∀ g_, (Value.slice ad' (afterL id L x).length cap').ownBlock = some g_ → g_ = g ∨ w.heap.size ≤ g_) ∧ Bar g w.heap.size w w' ∧ Below base w w' := by
  have hx0 := hg
  unfold goes at hg
  simp only [Bool.and_eq_true, decide_eq_true_eq] at hg
  obtain ⟨hb, hx, hq⟩ := hg
  have hl := (bOk_all hb).2.1.2
  obtain ⟨k, q, r, c, b, p, h, up⟩ := x
  dsimp only at hq ⊢
  obtain ⟨kq, rfl⟩ : ∃ kq : Nat, q = (kq : Int) := ⟨q.toNat, by omega⟩
  have hkl : kq < L.length := by omega
  rcases inOk_k hx with e | e | e
  · dsimp only at e
    subst e
    have hu : up = false := by
      unfold inOk at hx
      simp only [if_true, Bool.and_eq_true, Bool.not_eq_true'] at hx
      exact hx.2.2.2
    subst hu
    exact inSC id cap L kq r c b p h base g w hr hl hkl
  · dsimp only at e
    subst e
    unfold inOk at hx
    simp only [show ¬ ((2 : Int) = 1) by decide, show ¬ ((2 : Int) = 3) by decide, if_false, if_true, decide_eq_true_eq] at hx
    obtain ⟨e1, e2, e3, e4, e5, e6, e7⟩ := hx
    rw [e1, e2, e3, e4, e5, e6, e7]
    exact inST id cap L base g w hr hl hb
  · dsimp only at e
    subst e
    unfold inOk at hx
    simp only [show ¬ ((3 : Int) = 1) by decide, if_false, if_true, Bool.and_eq_true, decide_eq_true_eq, beq_iff_eq] at hx
    obtain ⟨_, ⟨e2, e3, e4, e5⟩, e6⟩ := hx
    rw [e2, e3, e4, e5, e6]
    exact inSL id cap L kq up base g w hr hl hkl
set_option maxHeartbeats 8000000 in
theorem reactS (id : Int) (ad : Option Addr) (cap : Nat) (L : List Pt) (x : Ik) (w : World) (hv : FView ptEnc w ad L) (hl : L.length ≤ 1048576) (hn : ad = none → cap = 0) :
    Calls Tryz.prog 77 #[.agg #[.int .i64 id, .slice ad L.length cap], .agg #[.int .i64 x.k, .int .i64 x.q, .int .i64 x.r, .int .i64 x.c, .int .i64 x.b, .int .i64 x.p, .int .i64 x.h, .bool x.up]] w fun e w' => ∃ ad' cap' ao co, e = .returned (.tuple #[.agg #[.int .i64 id, .slice ad' (reactL id L x).length cap'], .slice ao (reactO id L x).length co]) ∧ FOwn ptEnc 11 109 w.heap.size w' (.slice ad' (reactL id L x).length cap') (reactL id L x) ∧ FOwn ouEnc 8 114 w.heap.size w' (.slice ao (reactO id L x).length co) (reactO id L x) ∧ (∀ g_, (Value.slice ao (reactO id L x).length co).ownBlock = some g_ → (Value.slice ad' (reactL id L x).length cap').ownBlock ≠ some g_) ∧ Below w.heap.size w w' := by
  obtain ⟨i0, hi, hz0, hz1, hz2⟩ := info_parts ouInfo
  have hB := hv.lt ptEnc_len (by omega)
  obtain ⟨y, hy⟩ : ∃ y, y = ((w.alloc (Obj.cells #[.int .i64 id, .slice ad L.length cap] 56)).alloc (Obj.cells #[.int .i64 x.k, .int .i64 x.q, .int .i64 x.r, .int .i64 x.c, .int .i64 x.b, .int .i64 x.p, .int .i64 x.h, .bool x.up] 105)).alloc (Obj.cells #[.int .i64 0, .slice none 0 0] 56) := ⟨_, rfl⟩
  have B0 : Below w.heap.size w y := by rw [hy]; exact (((Below.refl _ _).alloc (Nat.le_refl _) _).alloc (by simp) _).alloc (by simp; omega) _
  have A0 : BrAt y w.heap.size id (.slice ad L.length cap) := by rw [hy]; constructor <;> simp [go_sem]
  have X0 : InAt y (w.heap.size + 1) x := by rw [hy]; constructor <;> simp [go_sem]
  have R0 : BBox y (w.heap.size + 1 + 1) 0 (.slice none 0 0) := by rw [hy]; refine ⟨?_, fun i => ?_⟩; constructor <;> simp [go_sem]; simp [go_sem]
  have S0 := R0.lt
  have hv1 := hv.below B0 hB
  have hB1 := hv1.lt ptEnc_len (by omega)
  have hvb0 : ∀ a, ad = some a → 0 < L.length → a.block < w.heap.size := hB
  clear hv hB
  obtain ⟨D, hD⟩ : ∃ D, reactL id L x = D := ⟨_, rfl⟩
  obtain ⟨OO, hO⟩ : ∃ D, reactO id L x = D := ⟨_, rfl⟩
  rw [hD, hO]
  replace hD : Hid _ := hD
  replace hO : Hid _ := hO
  go_enter Tryz.func77, Tryz.ntmps77
  go_upto_region 1 with fail
  rw [← hy]
  clear hy
  have hvb := hvb0
  have BY := B0
  obtain ⟨ye, hye⟩ : ∃ y_, y_ = y.alloc (Obj.cells #[] 114) := ⟨_, rfl⟩
  have oE : FOwn ouEnc 8 114 y.heap.size ye (.slice (some ⟨y.heap.size, 0, none⟩) 0 0) ([] : List Ou) := by rw [hye]; exact FOwn.empty y
  have ke : Below y.heap.size y ye := by rw [hye]; exact below_new _
  have ze := ke.size
  have A0 := A0.below ke A0.lt
  have X0 := X0.below ke X0.lt
  have R0 := R0.below ke R0.lt
  have hv1 := hv1.below ke (hv1.lt ptEnc_len (by omega))
  have BY := BY.trans (ke.mono BY.size)
  clear ke
  go_upto_region 2 with fail
  rw [← hye]
  clear hye
  generalize hE : y.heap.size = E at oE S0 ⊢
  replace hE : Hid _ := hE
  have wE : w.heap.size + 1 + 1 < E := S0
  have eE0 : E < ye.heap.size := (oE.lt E rfl).2
  have cc_ := A0
  obtain ⟨a0, a1⟩ := cc_
  go_wp2_with fail
  go_at_call 81
  clear a0 a1
  refine (bOkS id ad cap L ye hv1 hl).mono ?_
  rintro e Y1 ⟨rfl, k1⟩
  have z1 := k1.size
  have A0 := A0.below k1 A0.lt
  have X0 := X0.below k1 X0.lt
  have R0 := R0.below k1 R0.lt
  have hv1 := hv1.below k1 (hv1.lt ptEnc_len (by omega))
  have oE := oE.later k1
  have BY := BY.trans (k1.mono BY.size)
  clear k1
  cases hb : bOk id L with
  | false =>
    have hgo : goes id L x = false := by unfold goes; rw [hb]; rfl
    have hN : Hid (D = L ∧ OO = []) := by
      unfold Hid
      rw [← hD.out, ← hO.out]
      unfold reactL reactO
      rw [hgo]
      exact ⟨rfl, rfl⟩
    clear hD hO
    have cc_ := A0
    obtain ⟨a0, a1⟩ := cc_
    go_wp2_with fail
    go_at_call 135
    clear a0 a1
    have z9 := BY.size
    refine (copS id ad cap L Y1 hv1 hl hn).mono ?_
    rintro e w9 ⟨adN, capN, rfl, oN, k9⟩
    have S9 : w.heap.size + 1 + 1 < Y1.heap.size := R0.lt
    have jN : ∀ g_, (Value.slice (some ⟨E, 0, none⟩) 0 0).ownBlock = some g_ → (Value.slice adN L.length capN).ownBlock ≠ some g_ := fun g_ e e2 => by have h1 := (oN.lt g_ e2).1; have h2 := (oE.lt g_ e).2; omega
    have oE := oE.later k9
    have R0 := R0.below k9 R0.lt
    have BY := BY.trans (k9.mono BY.size)
    have RP := R0.put id (.slice adN L.length capN)
    obtain ⟨⟨r0, r1⟩, rf⟩ := R0
    have BZ := (BY.setCell (p := ⟨w.heap.size + 1 + 1, 0, none⟩) (by show _ ≤ w.heap.size + 1 + 1; omega) (.int .i64 id)).setCell (p := ⟨w.heap.size + 1 + 1, 1, none⟩) (by show _ ≤ w.heap.size + 1 + 1; omega) (.slice adN L.length capN)
    have OZ : FOwn ptEnc 11 109 w.heap.size ((w9.setCell ⟨w.heap.size + 1 + 1, 0, none⟩ (.int .i64 id)).setCell ⟨w.heap.size + 1 + 1, 1, none⟩ (.slice adN L.length capN)) (.slice adN L.length capN) L := (oN.base (by omega)).keep fun g' e => by
      have := (oN.lt g' e).1
      rw [Below.heap_setCell _ _ _ _ (by show g' ≠ w.heap.size + 1 + 1; omega), Below.heap_setCell _ _ _ _ (by show g' ≠ w.heap.size + 1 + 1; omega)]
    obtain ⟨⟨p0, p1⟩, _⟩ := RP
    have OQ : FOwn ouEnc 8 114 w.heap.size ((w9.setCell ⟨w.heap.size + 1 + 1, 0, none⟩ (.int .i64 id)).setCell ⟨w.heap.size + 1 + 1, 1, none⟩ (.slice adN L.length capN)) (.slice (some ⟨E, 0, none⟩) 0 0) [] := (oE.base (by omega)).keep fun g' e => by
      have := (oE.lt g' e).1
      rw [Below.heap_setCell _ _ _ _ (by show g' ≠ w.heap.size + 1 + 1; omega), Below.heap_setCell _ _ _ _ (by show g' ≠ w.heap.size + 1 + 1; omega)]
    go_wp2
    obtain ⟨rfl, rfl⟩ := hN.out
    refine bodyPost_ret (v := .tuple #[.agg #[.int .i64 id, .slice adN D.length capN], .slice (some ⟨E, 0, none⟩) 0 0]) (by simp [results, Tryz.results77, go_sem, *]) rfl ⟨adN, capN, some ⟨E, 0, none⟩, 0, rfl, OZ, OQ, jN, BZ⟩
  | true =>
    have hl4 := (bOk_all hb).2.1
    have X1 := X0
    obtain ⟨x0, x1, x2, x3, x4, x5, x6, x7⟩ := X1
    go_wp2_with fail
    go_at_call 134
    clear x0 x1 x2 x3 x4 x5 x6 x7
    refine (inOkS x Y1).mono ?_
    rintro e Y2 ⟨rfl, k2⟩
    have z2 := k2.size
    have A0 := A0.below k2 A0.lt
    have X0 := X0.below k2 X0.lt
    have R0 := R0.below k2 R0.lt
    have hv1 := hv1.below k2 (hv1.lt ptEnc_len (by omega))
    have oE := oE.later k2
    have BY := BY.trans (k2.mono BY.size)
    clear k2
    cases hx : inOk x with
    | false =>
      have hgo : goes id L x = false := by unfold goes; rw [hb, hx]; rfl
      have hN : Hid (D = L ∧ OO = []) := by
        unfold Hid
        rw [← hD.out, ← hO.out]
        unfold reactL reactO
        rw [hgo]
        exact ⟨rfl, rfl⟩
      clear hD hO
      have cc_ := A0
      obtain ⟨a0, a1⟩ := cc_
      go_wp2_with fail
      go_at_call 135
      clear a0 a1
      have z9 := BY.size
      refine (copS id ad cap L Y2 hv1 hl hn).mono ?_
      rintro e w9 ⟨adN, capN, rfl, oN, k9⟩
      have S9 : w.heap.size + 1 + 1 < Y2.heap.size := R0.lt
      have jN : ∀ g_, (Value.slice (some ⟨E, 0, none⟩) 0 0).ownBlock = some g_ → (Value.slice adN L.length capN).ownBlock ≠ some g_ := fun g_ e e2 => by have h1 := (oN.lt g_ e2).1; have h2 := (oE.lt g_ e).2; omega
      have oE := oE.later k9
      have R0 := R0.below k9 R0.lt
      have BY := BY.trans (k9.mono BY.size)
      have RP := R0.put id (.slice adN L.length capN)
      obtain ⟨⟨r0, r1⟩, rf⟩ := R0
      have BZ := (BY.setCell (p := ⟨w.heap.size + 1 + 1, 0, none⟩) (by show _ ≤ w.heap.size + 1 + 1; omega) (.int .i64 id)).setCell (p := ⟨w.heap.size + 1 + 1, 1, none⟩) (by show _ ≤ w.heap.size + 1 + 1; omega) (.slice adN L.length capN)
      have OZ : FOwn ptEnc 11 109 w.heap.size ((w9.setCell ⟨w.heap.size + 1 + 1, 0, none⟩ (.int .i64 id)).setCell ⟨w.heap.size + 1 + 1, 1, none⟩ (.slice adN L.length capN)) (.slice adN L.length capN) L := (oN.base (by omega)).keep fun g' e => by
        have := (oN.lt g' e).1
        rw [Below.heap_setCell _ _ _ _ (by show g' ≠ w.heap.size + 1 + 1; omega), Below.heap_setCell _ _ _ _ (by show g' ≠ w.heap.size + 1 + 1; omega)]
      obtain ⟨⟨p0, p1⟩, _⟩ := RP
      have OQ : FOwn ouEnc 8 114 w.heap.size ((w9.setCell ⟨w.heap.size + 1 + 1, 0, none⟩ (.int .i64 id)).setCell ⟨w.heap.size + 1 + 1, 1, none⟩ (.slice adN L.length capN)) (.slice (some ⟨E, 0, none⟩) 0 0) [] := (oE.base (by omega)).keep fun g' e => by
        have := (oE.lt g' e).1
        rw [Below.heap_setCell _ _ _ _ (by show g' ≠ w.heap.size + 1 + 1; omega), Below.heap_setCell _ _ _ _ (by show g' ≠ w.heap.size + 1 + 1; omega)]
      go_wp2
      obtain ⟨rfl, rfl⟩ := hN.out
      refine bodyPost_ret (v := .tuple #[.agg #[.int .i64 id, .slice adN D.length capN], .slice (some ⟨E, 0, none⟩) 0 0]) (by simp [results, Tryz.results77, go_sem, *]) rfl ⟨adN, capN, some ⟨E, 0, none⟩, 0, rfl, OZ, OQ, jN, BZ⟩
    | true =>
      have X1 := X0
      obtain ⟨x0, x1, x2, x3, x4, x5, x6, x7⟩ := X1
      have cc_ := A0
      obtain ⟨a0, a1⟩ := cc_
      have hq0 := (inOk_q hx).1
      by_cases hq : x.q < (L.length : Int)
      rotate_left
      · have hgo : goes id L x = false := by unfold goes; rw [hb, hx, decide_eq_false (by omega)]; rfl
        have dq : decide ((L.length : Int) ≤ x.q) = true := decide_eq_true (by omega)
        replace hq : Hid _ := hq
        go_upto_region 3 with fail
        clear x0 x1 x2 x3 x4 x5 x6 x7 a0 a1
        have hN : Hid (D = L ∧ OO = []) := by
          unfold Hid
          rw [← hD.out, ← hO.out]
          unfold reactL reactO
          rw [hgo]
          exact ⟨rfl, rfl⟩
        clear hD hO
        have cc_ := A0
        obtain ⟨a0, a1⟩ := cc_
        go_wp2_with fail
        go_at_call 135
        clear a0 a1
        have z9 := BY.size
        refine (copS id ad cap L Y2 hv1 hl hn).mono ?_
        rintro e w9 ⟨adN, capN, rfl, oN, k9⟩
        have S9 : w.heap.size + 1 + 1 < Y2.heap.size := R0.lt
        have jN : ∀ g_, (Value.slice (some ⟨E, 0, none⟩) 0 0).ownBlock = some g_ → (Value.slice adN L.length capN).ownBlock ≠ some g_ := fun g_ e e2 => by have h1 := (oN.lt g_ e2).1; have h2 := (oE.lt g_ e).2; omega
        have oE := oE.later k9
        have R0 := R0.below k9 R0.lt
        have BY := BY.trans (k9.mono BY.size)
        have RP := R0.put id (.slice adN L.length capN)
        obtain ⟨⟨r0, r1⟩, rf⟩ := R0
        have BZ := (BY.setCell (p := ⟨w.heap.size + 1 + 1, 0, none⟩) (by show _ ≤ w.heap.size + 1 + 1; omega) (.int .i64 id)).setCell (p := ⟨w.heap.size + 1 + 1, 1, none⟩) (by show _ ≤ w.heap.size + 1 + 1; omega) (.slice adN L.length capN)
        have OZ : FOwn ptEnc 11 109 w.heap.size ((w9.setCell ⟨w.heap.size + 1 + 1, 0, none⟩ (.int .i64 id)).setCell ⟨w.heap.size + 1 + 1, 1, none⟩ (.slice adN L.length capN)) (.slice adN L.length capN) L := (oN.base (by omega)).keep fun g' e => by
          have := (oN.lt g' e).1
          rw [Below.heap_setCell _ _ _ _ (by show g' ≠ w.heap.size + 1 + 1; omega), Below.heap_setCell _ _ _ _ (by show g' ≠ w.heap.size + 1 + 1; omega)]
        obtain ⟨⟨p0, p1⟩, _⟩ := RP
        have OQ : FOwn ouEnc 8 114 w.heap.size ((w9.setCell ⟨w.heap.size + 1 + 1, 0, none⟩ (.int .i64 id)).setCell ⟨w.heap.size + 1 + 1, 1, none⟩ (.slice adN L.length capN)) (.slice (some ⟨E, 0, none⟩) 0 0) [] := (oE.base (by omega)).keep fun g' e => by
          have := (oE.lt g' e).1
          rw [Below.heap_setCell _ _ _ _ (by show g' ≠ w.heap.size + 1 + 1; omega), Below.heap_setCell _ _ _ _ (by show g' ≠ w.heap.size + 1 + 1; omega)]
        go_wp2
        obtain ⟨rfl, rfl⟩ := hN.out
        refine bodyPost_ret (v := .tuple #[.agg #[.int .i64 id, .slice adN D.length capN], .slice (some ⟨E, 0, none⟩) 0 0]) (by simp [results, Tryz.results77, go_sem, *]) rfl ⟨adN, capN, some ⟨E, 0, none⟩, 0, rfl, OZ, OQ, jN, BZ⟩
      have hgo : goes id L x = true := by unfold goes; rw [hb, hx, decide_eq_true (by omega)]; rfl
      have dq : decide ((L.length : Int) ≤ x.q) = false := decide_eq_false (by omega)
      replace hq : Hid _ := hq
      obtain ⟨T, hT⟩ : ∃ T, afterL id L x = T := ⟨_, rfl⟩
      have hTl : T.length = L.length := by rw [← hT]; exact afterL_len id L x
      have hD2 : Hid (D = T) := by unfold Hid; rw [← hD.out, ← hT]; unfold reactL; rw [hgo]; rfl
      have hO2 : Hid (OO = gatesTo L T L.length ++ (if x.k = 2 then toldTo id T T.length else [])) := by unfold Hid; rw [← hO.out, hTl, ← hT]; unfold reactO; rw [hgo]; rfl
      have hT4 : 1 ≤ T.length ∧ T.length ≤ 4 := by omega
      replace hTl : Hid _ := hTl
      replace hT : Hid _ := hT
      clear hD hO hb hx
      go_upto_region 4 with fail
      clear x0 x1 x2 x3 x4 x5 x6 x7 a0 a1
      refine join_region (fun l l' W' => ∃ (P : Nat) (aT : Option Addr) (cT : Nat) (us : List Value), us.length = 4 ∧ l' = l.take 7 ++ (.pointer (some ⟨P, 0, none⟩) :: (l.drop 8).take 22) ++ us ++ l.drop 34 ∧ BBox W' P id (.slice aT T.length cT) ∧ FOwn ptEnc 11 109 Y2.heap.size W' (.slice aT T.length cT) T ∧ (∀ g_, (Value.slice aT T.length cT).ownBlock = some g_ → g_ ≠ P) ∧ Y2.heap.size ≤ P ∧ Below Y2.heap.size Y2 W') ?_ ?_
      rotate_left
      · intro K2 hT3
        refine wp_region_held (S := fun Y => Below Y2.heap.size Y2 Y) (by kernel_rfl) ?_
        change wpAnyH _ _ _ _ _ _ _ _ (World.drew _)
        have hb0 : Below Y2.heap.size Y2 Y2.drew := (Below.refl _ _).drew
        obtain ⟨u0, hy0⟩ : ∃ y_, y_ = Y2.drew := ⟨_, rfl⟩
        rw [← hy0] at hb0 ⊢
        clear hy0
        refine takeW 0 30 (.agg #[.int .i64 id, .slice ad L.length cap]) rfl rfl (by kernel_rfl) (by kernel_rfl) (by kernel_rfl) (fun _ _ _ h => h) (by kernel_rfl) (by (intro Y hSw; obtain ⟨X0_, X1_⟩ := A0.below hSw A0.lt; go_simp)) (by assumption) ?_
        simp only [List.set_cons_zero, List.set_cons_succ]
        refine takeW 2 32 (.agg #[.int .i64 x.k, .int .i64 x.q, .int .i64 x.r, .int .i64 x.c, .int .i64 x.b, .int .i64 x.p, .int .i64 x.h, .bool x.up]) rfl rfl (by kernel_rfl) (by kernel_rfl) (by kernel_rfl) (fun _ _ _ h => h) (by kernel_rfl) (by (intro Y hSw; obtain ⟨Z0, Z1, Z2, Z3, Z4, Z5, Z6, Z7⟩ := X0.below hSw X0.lt; go_simp)) (by assumption) ?_
        simp only [List.set_cons_zero, List.set_cons_succ]
        refine wpAnyH_all (rs := [1, 4]) (by kernel_rfl) (by simp) ?_
        intro i hi; rcases (by simpa using hi : i = 1 ∨ i = 4) with rfl | rfl
        · refine wpOp_step rfl (fun K hK => ?_)
          rw [if_pos (by kernel_rfl)]
          go_simp
          go_at_call 135
          refine (copS id ad cap L u0 (hv1.below hb0 (hv1.lt ptEnc_len (by omega))) (by omega) hn).mono ?_
          rintro e u1 ⟨aN, cN, rfl, oN, kq⟩
          obtain ⟨gN, rfl, gN1, gN2⟩ := oN.row (by omega)
          have bN : Y2.heap.size ≤ u0.heap.size := hb0.size
          have bU := kq.size
          have hb1 : Below Y2.heap.size Y2 u1 := hb0.trans (kq.mono hb0.size)
          clear kq
          refine hK _ _ ⟨hb1, ?_⟩
          clear hK K hi
          refine wpAnyH_all (rs := [3, 4]) (by kernel_rfl) (by simp) ?_
          intro i hi; rcases (by simpa using hi : i = 3 ∨ i = 4) with rfl | rfl
          · refine wpOp_step rfl (fun K hK => ?_)
            rw [if_pos (by kernel_rfl)]
            go_simp
            go_at_call 136
            refine (inS id cN L x _ gN u1 oN hgo).mono ?_
            rintro e u2 ⟨aT, cT, rfl, oT, jT, kBar, kB⟩
            rw [hT.out] at oT jT ⊢
            have hb2 : Below Y2.heap.size Y2 u2 := hb1.trans (kB.mono bN)
            refine hK _ _ ⟨hb2, ?_⟩
            clear hK K hi
            refine wpAnyH_all (rs := [4]) (by kernel_rfl) (by simp) ?_
            intro i hi; obtain rfl : i = 4 := by simpa using hi
            refine wpOp_step rfl (fun K hK => ?_)
            rw [if_pos (by kernel_rfl)]
            go_simp
            obtain ⟨u3, hy⟩ : ∃ y_, y_ = u2.alloc (Obj.cells #[.int .i64 0, .slice none 0 0] 56) := ⟨_, rfl⟩
            have kq : Below u2.heap.size u2 u3 := by rw [hy]; exact below_new _
            have joT : ∀ g_, (Value.slice aT T.length cT).ownBlock = some g_ → g_ ≠ u2.heap.size := fun g_ e => by have h1 := (oT.lt g_ e).2; omega
            have oT := oT.later kq
            have FP : BBox u3 u2.heap.size 0 (.slice none 0 0) := by rw [hy]; exact BBox.new u2 _ _ _
            have pa : Y2.heap.size ≤ u2.heap.size := hb2.size
            have hb3 : Below Y2.heap.size Y2 u3 := hb2.trans (kq.mono hb2.size)
            rw [← hy]
            clear hy kq
            refine hK _ _ ⟨hb3, ?_⟩
            clear hK K hi
            refine wpAnyH_all (rs := [5]) (by kernel_rfl) (by simp) ?_
            intro i hi; obtain rfl : i = 5 := by simpa using hi
            refine wpOp_step rfl (fun K hK => ?_)
            rw [if_pos (by kernel_rfl)]
            have FQ := FP
            obtain ⟨⟨t0, t1⟩, tf⟩ := FP
            go_simp
            clear t0 t1 tf
            obtain ⟨uf, huf⟩ : ∃ y_, y_ = (u3.setCell ⟨u2.heap.size, 0, none⟩ (.int .i64 id)).setCell ⟨u2.heap.size, 1, none⟩ (.slice aT T.length cT) := ⟨_, rfl⟩
            have FE : BBox uf (u2.heap.size) id (.slice aT T.length cT) := by rw [huf]; exact FQ.put _ _
            have hbf : Below Y2.heap.size Y2 uf := by rw [huf]; exact (hb3.setCell (p := ⟨u2.heap.size, 0, none⟩) pa _).setCell (p := ⟨u2.heap.size, 1, none⟩) pa _
            have oT := oT.keep (w' := uf) (fun g_ e => by rw [huf, Below.heap_setCell _ _ _ _ (by show g_ ≠ u2.heap.size; exact joT g_ e), Below.heap_setCell _ _ _ _ (by show g_ ≠ u2.heap.size; exact joT g_ e)])
            rw [← huf]
            clear huf FQ
            refine hK _ _ ⟨hbf, ?_⟩
            clear hK K hi
            refine wpAnyH_done (by kernel_rfl) ?_ _
            exact hT3.out _ _ ⟨u2.heap.size, aT, cT, [(.agg #[.int .i64 id, .slice ad L.length cap] : Value), .agg #[.int .i64 id, .slice (some ⟨gN, 0, none⟩) L.length cN], (.agg #[.int .i64 x.k, .int .i64 x.q, .int .i64 x.r, .int .i64 x.c, .int .i64 x.b, .int .i64 x.p, .int .i64 x.h, .bool x.up]), .agg #[.int .i64 id, .slice aT T.length cT]], rfl, by kernel_rfl, FE, oT.base bN, joT, pa, hbf⟩
          · refine wpOp_step rfl (fun K hK => ?_)
            rw [if_pos (by kernel_rfl)]
            go_simp
            obtain ⟨u2, hy⟩ : ∃ y_, y_ = u1.alloc (Obj.cells #[.int .i64 0, .slice none 0 0] 56) := ⟨_, rfl⟩
            have kq : Below u1.heap.size u1 u2 := by rw [hy]; exact below_new _
            have joN : ∀ g_, (Value.slice (some ⟨gN, 0, none⟩) L.length cN).ownBlock = some g_ → g_ ≠ u1.heap.size := fun g_ e => by have h1 := (oN.lt g_ e).2; omega
            have oN := oN.later kq
            have FP : BBox u2 u1.heap.size 0 (.slice none 0 0) := by rw [hy]; exact BBox.new u1 _ _ _
            have pa : Y2.heap.size ≤ u1.heap.size := hb1.size
            have hb2 : Below Y2.heap.size Y2 u2 := hb1.trans (kq.mono hb1.size)
            rw [← hy]
            clear hy kq
            refine hK _ _ ⟨hb2, ?_⟩
            clear hK K hi
            refine wpAnyH_all (rs := [3]) (by kernel_rfl) (by simp) ?_
            intro i hi; obtain rfl : i = 3 := by simpa using hi
            refine wpOp_step rfl (fun K hK => ?_)
            rw [if_pos (by kernel_rfl)]
            go_simp
            go_at_call 136
            refine (inS id cN L x _ gN u2 oN hgo).mono ?_
            rintro e u3 ⟨aT, cT, rfl, oT, jT, kBar, kB⟩
            rw [hT.out] at oT jT ⊢
            have joT : ∀ g_, (Value.slice aT T.length cT).ownBlock = some g_ → g_ ≠ u1.heap.size := fun g_ e => by
              have h1 := jT g_ e
              have h2 := FP.lt
              have h3 := joN gN rfl
              omega
            have FP := FP.keep (kBar.block _ FP.lt (fun e => joN gN rfl e.symm))
            have hb3 : Below Y2.heap.size Y2 u3 := hb2.trans (kB.mono bN)
            refine hK _ _ ⟨hb3, ?_⟩
            clear hK K hi
            refine wpAnyH_all (rs := [5]) (by kernel_rfl) (by simp) ?_
            intro i hi; obtain rfl : i = 5 := by simpa using hi
            refine wpOp_step rfl (fun K hK => ?_)
            rw [if_pos (by kernel_rfl)]
            have FQ := FP
            obtain ⟨⟨t0, t1⟩, tf⟩ := FP
            go_simp
            clear t0 t1 tf
            obtain ⟨uf, huf⟩ : ∃ y_, y_ = (u3.setCell ⟨u1.heap.size, 0, none⟩ (.int .i64 id)).setCell ⟨u1.heap.size, 1, none⟩ (.slice aT T.length cT) := ⟨_, rfl⟩
            have FE : BBox uf (u1.heap.size) id (.slice aT T.length cT) := by rw [huf]; exact FQ.put _ _
            have hbf : Below Y2.heap.size Y2 uf := by rw [huf]; exact (hb3.setCell (p := ⟨u1.heap.size, 0, none⟩) pa _).setCell (p := ⟨u1.heap.size, 1, none⟩) pa _
            have oT := oT.keep (w' := uf) (fun g_ e => by rw [huf, Below.heap_setCell _ _ _ _ (by show g_ ≠ u1.heap.size; exact joT g_ e), Below.heap_setCell _ _ _ _ (by show g_ ≠ u1.heap.size; exact joT g_ e)])
            rw [← huf]
            clear huf FQ
            refine hK _ _ ⟨hbf, ?_⟩
            clear hK K hi
            refine wpAnyH_done (by kernel_rfl) ?_ _
            exact hT3.out _ _ ⟨u1.heap.size, aT, cT, [(.agg #[.int .i64 id, .slice ad L.length cap] : Value), .agg #[.int .i64 id, .slice (some ⟨gN, 0, none⟩) L.length cN], (.agg #[.int .i64 x.k, .int .i64 x.q, .int .i64 x.r, .int .i64 x.c, .int .i64 x.b, .int .i64 x.p, .int .i64 x.h, .bool x.up]), .agg #[.int .i64 id, .slice aT T.length cT]], rfl, by kernel_rfl, FE, oT.base bN, joT, pa, hbf⟩
        · refine wpOp_step rfl (fun K hK => ?_)
          rw [if_pos (by kernel_rfl)]
          go_simp
          obtain ⟨u1, hy⟩ : ∃ y_, y_ = u0.alloc (Obj.cells #[.int .i64 0, .slice none 0 0] 56) := ⟨_, rfl⟩
          have kq : Below u0.heap.size u0 u1 := by rw [hy]; exact below_new _
          have FP : BBox u1 u0.heap.size 0 (.slice none 0 0) := by rw [hy]; exact BBox.new u0 _ _ _
          have pa : Y2.heap.size ≤ u0.heap.size := hb0.size
          have hb1 : Below Y2.heap.size Y2 u1 := hb0.trans (kq.mono hb0.size)
          rw [← hy]
          clear hy kq
          refine hK _ _ ⟨hb1, ?_⟩
          clear hK K hi
          refine wpAnyH_all (rs := [1]) (by kernel_rfl) (by simp) ?_
          intro i hi; obtain rfl : i = 1 := by simpa using hi
          refine wpOp_step rfl (fun K hK => ?_)
          rw [if_pos (by kernel_rfl)]
          go_simp
          go_at_call 135
          refine (copS id ad cap L u1 (hv1.below hb1 (hv1.lt ptEnc_len (by omega))) (by omega) hn).mono ?_
          rintro e u2 ⟨aN, cN, rfl, oN, kq⟩
          obtain ⟨gN, rfl, gN1, gN2⟩ := oN.row (by omega)
          have bN : Y2.heap.size ≤ u1.heap.size := hb1.size
          have bU := kq.size
          have joN : ∀ g_, (Value.slice (some ⟨gN, 0, none⟩) L.length cN).ownBlock = some g_ → g_ ≠ u0.heap.size := fun g_ e => by have h1 := (oN.lt g_ e).1; have h2 := FP.lt; omega
          have FP := FP.below kq FP.lt
          have hb2 : Below Y2.heap.size Y2 u2 := hb1.trans (kq.mono hb1.size)
          clear kq
          refine hK _ _ ⟨hb2, ?_⟩
          clear hK K hi
          refine wpAnyH_all (rs := [3]) (by kernel_rfl) (by simp) ?_
          intro i hi; obtain rfl : i = 3 := by simpa using hi
          refine wpOp_step rfl (fun K hK => ?_)
          rw [if_pos (by kernel_rfl)]
          go_simp
          go_at_call 136
          refine (inS id cN L x _ gN u2 oN hgo).mono ?_
          rintro e u3 ⟨aT, cT, rfl, oT, jT, kBar, kB⟩
          rw [hT.out] at oT jT ⊢
          have joT : ∀ g_, (Value.slice aT T.length cT).ownBlock = some g_ → g_ ≠ u0.heap.size := fun g_ e => by
            have h1 := jT g_ e
            have h2 := FP.lt
            have h3 := joN gN rfl
            omega
          have FP := FP.keep (kBar.block _ FP.lt (fun e => joN gN rfl e.symm))
          have hb3 : Below Y2.heap.size Y2 u3 := hb2.trans (kB.mono bN)
          refine hK _ _ ⟨hb3, ?_⟩
          clear hK K hi
          refine wpAnyH_all (rs := [5]) (by kernel_rfl) (by simp) ?_
          intro i hi; obtain rfl : i = 5 := by simpa using hi
          refine wpOp_step rfl (fun K hK => ?_)
          rw [if_pos (by kernel_rfl)]
          have FQ := FP
          obtain ⟨⟨t0, t1⟩, tf⟩ := FP
          go_simp
          clear t0 t1 tf
          obtain ⟨uf, huf⟩ : ∃ y_, y_ = (u3.setCell ⟨u0.heap.size, 0, none⟩ (.int .i64 id)).setCell ⟨u0.heap.size, 1, none⟩ (.slice aT T.length cT) := ⟨_, rfl⟩
          have FE : BBox uf (u0.heap.size) id (.slice aT T.length cT) := by rw [huf]; exact FQ.put _ _
          have hbf : Below Y2.heap.size Y2 uf := by rw [huf]; exact (hb3.setCell (p := ⟨u0.heap.size, 0, none⟩) pa _).setCell (p := ⟨u0.heap.size, 1, none⟩) pa _
          have oT := oT.keep (w' := uf) (fun g_ e => by rw [huf, Below.heap_setCell _ _ _ _ (by show g_ ≠ u0.heap.size; exact joT g_ e), Below.heap_setCell _ _ _ _ (by show g_ ≠ u0.heap.size; exact joT g_ e)])
          rw [← huf]
          clear huf FQ
          refine hK _ _ ⟨hbf, ?_⟩
          clear hK K hi
          refine wpAnyH_done (by kernel_rfl) ?_ _
          exact hT3.out _ _ ⟨u0.heap.size, aT, cT, [(.agg #[.int .i64 id, .slice ad L.length cap] : Value), .agg #[.int .i64 id, .slice (some ⟨gN, 0, none⟩) L.length cN], (.agg #[.int .i64 x.k, .int .i64 x.q, .int .i64 x.r, .int .i64 x.c, .int .i64 x.b, .int .i64 x.p, .int .i64 x.h, .bool x.up]), .agg #[.int .i64 id, .slice aT T.length cT]], rfl, by kernel_rfl, FE, oT.base bN, joT, pa, hbf⟩
      rintro l' Y4 ⟨P, aT, cT, us, hul, rfl, NP, oT, jT, pT, k4⟩
      obtain ⟨u30, us, rfl⟩ : ∃ a b, us = a :: b := List.exists_cons_of_length_eq_add_one hul
      replace hul := Nat.succ.inj hul
      obtain ⟨u31, us, rfl⟩ : ∃ a b, us = a :: b := List.exists_cons_of_length_eq_add_one hul
      replace hul := Nat.succ.inj hul
      obtain ⟨u32, us, rfl⟩ : ∃ a b, us = a :: b := List.exists_cons_of_length_eq_add_one hul
      replace hul := Nat.succ.inj hul
      obtain ⟨u33, us, rfl⟩ : ∃ a b, us = a :: b := List.exists_cons_of_length_eq_add_one hul
      replace hul := Nat.succ.inj hul
      obtain rfl : us = [] := List.eq_nil_of_length_eq_zero hul
      clear hul
      simp only [List.take, List.drop, List.cons_append, List.nil_append]
      have z4 := k4.size
      have A0 := A0.below k4 A0.lt
      have X0 := X0.below k4 X0.lt
      have R0 := R0.below k4 R0.lt
      have hv1 := hv1.below k4 (hv1.lt ptEnc_len (by omega))
      have oE := oE.later k4
      have BY := BY.trans (k4.mono BY.size)
      clear k4
      have NP := NP.at_
      have vT : FView ptEnc Y4 aT T := oT.view.2
      have vtb : ∀ a, aT = some a → 0 < T.length → Y2.heap.size ≤ a.block ∧ a.block < Y4.heap.size := fun a e p => by
        obtain ⟨g_, e1, e2, e3⟩ := oT.row p
        rw [e1] at e
        cases e
        exact ⟨e2, e3⟩
      have vab : ∀ a, ad = some a → 0 < L.length → a.block < w.heap.size := hvb
      have eE := (oE.lt E rfl).2
      have pP := NP.lt
      have sE : ∀ g_, (Value.slice (some ⟨E, 0, none⟩) ([] : List Ou).length 0).ownBlock = some g_ → g_ = E ∨ Y4.heap.size ≤ g_ := fun g_ e => .inl (by simpa [Value.ownBlock] using e.symm)
      have EY2 : E < Y2.heap.size := by omega
      go_wp2
      go_loopw [6, 8] (fun v i wr => ∃ k : Nat, k ≤ L.length ∧ i = .int .i64 (k : Int) ∧ FOwn ouEnc 8 114 E wr v (gatesTo L T k) ∧ (∀ g_, v.ownBlock = some g_ → g_ = E ∨ Y4.heap.size ≤ g_) ∧ Bar E Y4.heap.size Y4 wr ∧ Below w.heap.size w wr) (fun _ i _ => L.length - (intOf i).toNat)
      case atStart => exact ⟨0, Nat.zero_le _, rfl, oE, sE, Bar.of (Below.refl _ _), BY⟩
      case round =>
        obtain ⟨k, hk, rfl, O, sO, hBar, B5⟩ := hrel
        obtain ⟨adk, capk, rfl⟩ := O.open_
        have z5 := hBar.size
        have A5 := A0.bar hBar A0.lt (by omega)
        have P5 := NP.bar hBar NP.lt (by omega)
        have cc_ := A5
        obtain ⟨a0, a1⟩ := cc_
        by_cases hlt : k < L.length
        · have hltT : k < T.length := by rw [hTl.out]; exact hlt
          have hv5 : FView ptEnc wr ad L := hv1.carry fun a e p => hBar.block _ (by have := vab a e p; omega) (by have := vab a e p; omega)
          have vT5 : FView ptEnc wr aT T := vT.carry fun a e p => hBar.block _ (vtb a e p).2 (by have := (vtb a e p).1; omega)
          obtain ⟨bk, off, rfl, _⟩ := hv5 (by omega)
          obtain ⟨bt_, ot_, rfl, _⟩ := vT5 (by omega)
          obtain ⟨h, hh⟩ : ∃ h, T.getD k Pt.nil = h := ⟨_, rfl⟩
          obtain ⟨q_, hg⟩ : ∃ g, L.getD k Pt.nil = g := ⟨_, rfl⟩
          have hhc : ∀ Y, Below wr.heap.size wr Y → PtAtO Y bt_ (ot_ + k * 11) h := fun Y hY => by rw [← hh]; exact ptAtO_of ((vT5.below hY (vT5.lt ptEnc_len (by omega))).at_ ptEnc_len Pt.nil hltT)
          have hgc : ∀ Y, Below wr.heap.size wr Y → PtAtO Y bk (off + k * 11) q_ := fun Y hY => by rw [← hg]; exact ptAtO_of ((hv5.below hY (hv5.lt ptEnc_len (by omega))).at_ ptEnc_len Pt.nil hlt)
          replace hh : Hid _ := hh
          replace hg : Hid _ := hg
          have gl := gates_len L T k
          obtain ⟨G, hG⟩ : ∃ G, gatesTo L T k = G := ⟨_, rfl⟩
          rw [hG] at O gl sO ⊢
          replace hG : Hid _ := hG
          go_upto_region 8 with fail
          clear a0 a1 hv5 vT5
          by_cases ho : h.op = q_.op
          · have hN : Hid (gatesTo L T (k + 1) = G) := by unfold Hid; rw [gates_yes hh.out hg.out ho, hG.out]
            replace ho : Hid _ := ho
            refine wp_region_held (S := fun Y => Below wr.heap.size wr Y) (by kernel_rfl) ?_
            change wpAnyH _ _ _ _ _ _ _ _ (World.drew _)
            have hb0 : Below wr.heap.size wr wr.drew := (Below.refl _ _).drew
            obtain ⟨u0, hy0⟩ : ∃ y_, y_ = wr.drew := ⟨_, rfl⟩
            rw [← hy0] at hb0 ⊢
            clear hy0
            refine takeW 0 41 (.pointer (some ⟨P, 1, none⟩)) rfl rfl (by kernel_rfl) (by kernel_rfl) (by kernel_rfl) (fun _ _ _ h => h) (by kernel_rfl) (by (intro w hSw; go_simp)) (by assumption) ?_
            simp only [List.set_cons_zero, List.set_cons_succ]
            refine takeW 1 42 (.slice (some ⟨bt_, ot_, none⟩) T.length cT) rfl rfl (by kernel_rfl) (by kernel_rfl) (by kernel_rfl) (fun _ _ _ h => h) (by kernel_rfl) (by (intro Y hSw; obtain ⟨X0_, X1_⟩ := P5.below hSw P5.lt; go_simp)) (by assumption) ?_
            simp only [List.set_cons_zero, List.set_cons_succ]
            refine takeW 2 43 (.int .i64 (k : Int)) rfl rfl (by kernel_rfl) (by kernel_rfl) (by kernel_rfl) (fun _ _ _ h => h) (by kernel_rfl) (by (intro w hSw; go_simp)) (by assumption) ?_
            simp only [List.set_cons_zero, List.set_cons_succ]
            refine takeW 3 44 (.pointer (some ⟨bt_, ot_ + k * 11, none⟩)) rfl rfl (by kernel_rfl) (by kernel_rfl) (by kernel_rfl) (fun _ _ _ h => h) (by kernel_rfl) (by (intro Y hSw; go_simp; try omega)) (by assumption) ?_
            simp only [List.set_cons_zero, List.set_cons_succ]
            refine takeW 4 45 (.pointer (some ⟨bt_, ot_ + k * 11 + 10, none⟩)) rfl rfl (by kernel_rfl) (by kernel_rfl) (by kernel_rfl) (fun _ _ _ h => h) (by kernel_rfl) (by (intro w hSw; go_simp)) (by assumption) ?_
            simp only [List.set_cons_zero, List.set_cons_succ]
            refine takeW 5 46 (.bool h.op) rfl rfl (by kernel_rfl) (by kernel_rfl) (by kernel_rfl) (fun _ _ _ h => h) (by kernel_rfl) (by (intro Y hSw; obtain ⟨X0, X1, X2, X3, X4, X5, X6, X7, X8, X9, X10⟩ := hhc Y hSw; go_simp)) (by assumption) ?_
            simp only [List.set_cons_zero, List.set_cons_succ]
            refine takeW 6 47 (.pointer (some ⟨w.heap.size, 1, none⟩)) rfl rfl (by kernel_rfl) (by kernel_rfl) (by kernel_rfl) (fun _ _ _ h => h) (by kernel_rfl) (by (intro w hSw; go_simp)) (by assumption) ?_
            simp only [List.set_cons_zero, List.set_cons_succ]
            refine takeW 7 48 (.slice (some ⟨bk, off, none⟩) L.length cap) rfl rfl (by kernel_rfl) (by kernel_rfl) (by kernel_rfl) (fun _ _ _ h => h) (by kernel_rfl) (by (intro Y hSw; obtain ⟨X0_, X1_⟩ := A5.below hSw A5.lt; go_simp)) (by assumption) ?_
            simp only [List.set_cons_zero, List.set_cons_succ]
            refine takeW 8 49 (.int .i64 (k : Int)) rfl rfl (by kernel_rfl) (by kernel_rfl) (by kernel_rfl) (fun _ _ _ h => h) (by kernel_rfl) (by (intro w hSw; go_simp)) (by assumption) ?_
            simp only [List.set_cons_zero, List.set_cons_succ]
            refine takeW 9 50 (.pointer (some ⟨bk, off + k * 11, none⟩)) rfl rfl (by kernel_rfl) (by kernel_rfl) (by kernel_rfl) (fun _ _ _ h => h) (by kernel_rfl) (by (intro Y hSw; go_simp; try omega)) (by assumption) ?_
            simp only [List.set_cons_zero, List.set_cons_succ]
            refine takeW 10 51 (.pointer (some ⟨bk, off + k * 11 + 10, none⟩)) rfl rfl (by kernel_rfl) (by kernel_rfl) (by kernel_rfl) (fun _ _ _ h => h) (by kernel_rfl) (by (intro w hSw; go_simp)) (by assumption) ?_
            simp only [List.set_cons_zero, List.set_cons_succ]
            refine takeW 11 52 (.bool q_.op) rfl rfl (by kernel_rfl) (by kernel_rfl) (by kernel_rfl) (fun _ _ _ h => h) (by kernel_rfl) (by (intro Y hSw; obtain ⟨X0, X1, X2, X3, X4, X5, X6, X7, X8, X9, X10⟩ := hgc Y hSw; go_simp)) (by assumption) ?_
            simp only [List.set_cons_zero, List.set_cons_succ]
            refine takeW 12 53 (.bool false) rfl rfl (by kernel_rfl) (by kernel_rfl) (by kernel_rfl) (fun _ _ _ h => h) (by kernel_rfl) (by (intro Y hSw; go_simp; exact ho.out)) (by assumption) ?_
            simp only [List.set_cons_zero, List.set_cons_succ]
            refine wpAnyH_done (by kernel_rfl) ?_ _
            have hBar2 : Bar E Y4.heap.size Y4 u0 := ⟨Nat.le_trans hBar.size hb0.size, fun q hq hne => (hb0.block q (by omega)).trans (hBar.block q hq hne)⟩
            go_wp2
            go_roundw
            case rel => exact ⟨k + 1, by omega, by go_num, by rw [hN.out]; exact O.later hb0, sO, hBar2, B5.trans (hb0.mono B5.size)⟩
            case measure => simp [intOf]; omega
          · have hN : Hid (gatesTo L T (k + 1) = G ++ [gateO k h.op]) := by unfold Hid; rw [gates_no hh.out hg.out ho, hG.out]
            replace ho : Hid _ := ho
            refine wp_region_held (S := fun Y => Below wr.heap.size wr Y) (by kernel_rfl) ?_
            change wpAnyH _ _ _ _ _ _ _ _ (World.drew _)
            have hb0 : Below wr.heap.size wr wr.drew := (Below.refl _ _).drew
            obtain ⟨u0, hy0⟩ : ∃ y_, y_ = wr.drew := ⟨_, rfl⟩
            rw [← hy0] at hb0 ⊢
            clear hy0
            refine takeW 0 41 (.pointer (some ⟨P, 1, none⟩)) rfl rfl (by kernel_rfl) (by kernel_rfl) (by kernel_rfl) (fun _ _ _ h => h) (by kernel_rfl) (by (intro w hSw; go_simp)) (by assumption) ?_
            simp only [List.set_cons_zero, List.set_cons_succ]
            refine takeW 1 42 (.slice (some ⟨bt_, ot_, none⟩) T.length cT) rfl rfl (by kernel_rfl) (by kernel_rfl) (by kernel_rfl) (fun _ _ _ h => h) (by kernel_rfl) (by (intro Y hSw; obtain ⟨X0_, X1_⟩ := P5.below hSw P5.lt; go_simp)) (by assumption) ?_
            simp only [List.set_cons_zero, List.set_cons_succ]
            refine takeW 2 43 (.int .i64 (k : Int)) rfl rfl (by kernel_rfl) (by kernel_rfl) (by kernel_rfl) (fun _ _ _ h => h) (by kernel_rfl) (by (intro w hSw; go_simp)) (by assumption) ?_
            simp only [List.set_cons_zero, List.set_cons_succ]
            refine takeW 3 44 (.pointer (some ⟨bt_, ot_ + k * 11, none⟩)) rfl rfl (by kernel_rfl) (by kernel_rfl) (by kernel_rfl) (fun _ _ _ h => h) (by kernel_rfl) (by (intro Y hSw; go_simp; try omega)) (by assumption) ?_
            simp only [List.set_cons_zero, List.set_cons_succ]
            refine takeW 4 45 (.pointer (some ⟨bt_, ot_ + k * 11 + 10, none⟩)) rfl rfl (by kernel_rfl) (by kernel_rfl) (by kernel_rfl) (fun _ _ _ h => h) (by kernel_rfl) (by (intro w hSw; go_simp)) (by assumption) ?_
            simp only [List.set_cons_zero, List.set_cons_succ]
            refine takeW 5 46 (.bool h.op) rfl rfl (by kernel_rfl) (by kernel_rfl) (by kernel_rfl) (fun _ _ _ h => h) (by kernel_rfl) (by (intro Y hSw; obtain ⟨X0, X1, X2, X3, X4, X5, X6, X7, X8, X9, X10⟩ := hhc Y hSw; go_simp)) (by assumption) ?_
            simp only [List.set_cons_zero, List.set_cons_succ]
            refine takeW 6 47 (.pointer (some ⟨w.heap.size, 1, none⟩)) rfl rfl (by kernel_rfl) (by kernel_rfl) (by kernel_rfl) (fun _ _ _ h => h) (by kernel_rfl) (by (intro w hSw; go_simp)) (by assumption) ?_
            simp only [List.set_cons_zero, List.set_cons_succ]
            refine takeW 7 48 (.slice (some ⟨bk, off, none⟩) L.length cap) rfl rfl (by kernel_rfl) (by kernel_rfl) (by kernel_rfl) (fun _ _ _ h => h) (by kernel_rfl) (by (intro Y hSw; obtain ⟨X0_, X1_⟩ := A5.below hSw A5.lt; go_simp)) (by assumption) ?_
            simp only [List.set_cons_zero, List.set_cons_succ]
            refine takeW 8 49 (.int .i64 (k : Int)) rfl rfl (by kernel_rfl) (by kernel_rfl) (by kernel_rfl) (fun _ _ _ h => h) (by kernel_rfl) (by (intro w hSw; go_simp)) (by assumption) ?_
            simp only [List.set_cons_zero, List.set_cons_succ]
            refine takeW 9 50 (.pointer (some ⟨bk, off + k * 11, none⟩)) rfl rfl (by kernel_rfl) (by kernel_rfl) (by kernel_rfl) (fun _ _ _ h => h) (by kernel_rfl) (by (intro Y hSw; go_simp; try omega)) (by assumption) ?_
            simp only [List.set_cons_zero, List.set_cons_succ]
            refine takeW 10 51 (.pointer (some ⟨bk, off + k * 11 + 10, none⟩)) rfl rfl (by kernel_rfl) (by kernel_rfl) (by kernel_rfl) (fun _ _ _ h => h) (by kernel_rfl) (by (intro w hSw; go_simp)) (by assumption) ?_
            simp only [List.set_cons_zero, List.set_cons_succ]
            refine takeW 11 52 (.bool q_.op) rfl rfl (by kernel_rfl) (by kernel_rfl) (by kernel_rfl) (fun _ _ _ h => h) (by kernel_rfl) (by (intro Y hSw; obtain ⟨X0, X1, X2, X3, X4, X5, X6, X7, X8, X9, X10⟩ := hgc Y hSw; go_simp)) (by assumption) ?_
            simp only [List.set_cons_zero, List.set_cons_succ]
            refine takeW 12 53 (.bool true) rfl rfl (by kernel_rfl) (by kernel_rfl) (by kernel_rfl) (fun _ _ _ h => h) (by kernel_rfl) (by (intro Y hSw; go_simp; exact ho.out)) (by assumption) ?_
            simp only [List.set_cons_zero, List.set_cons_succ]
            refine wpAnyH_done (by kernel_rfl) ?_ _
            have hBar2 : Bar E Y4.heap.size Y4 u0 := ⟨Nat.le_trans hBar.size hb0.size, fun q hq hne => (hb0.block q (by omega)).trans (hBar.block q hq hne)⟩
            have B6 := B5.trans (hb0.mono B5.size)
            have z6 := hb0.size
            obtain ⟨c0, c1, c2, c3, c4, c5, c6, c7, c8, c9, c10⟩ := hhc u0 hb0
            obtain ⟨n0, n1⟩ := P5.below hb0 P5.lt
            have V1 := FView.oneO u0 114 (gateO k h.op)
            have O2 : FOwn ouEnc 8 114 E (u0.alloc (Obj.cells #[.int .i64 (gateO k h.op).k, .int .i64 (gateO k h.op).pt, .int .i64 (gateO k h.op).r, .int .i64 (gateO k h.op).c, .int .i64 (gateO k h.op).b, .int .i64 (gateO k h.op).p, .int .i64 (gateO k h.op).h, .bool (gateO k h.op).on] 114)) (.slice adk G.length capk) G := (O.later hb0).later (below_new _)
            unfold gateO at V1 O2
            dsimp only at V1 O2
            go_wp2_with (first | (at_builtin; refine fappL ouEnc_len ouEnc_ones rfl _ _ 46 rfl E 114 i0 (.agg #[.int .i64 0, .int .i64 0, .int .i64 0, .int .i64 0, .int .i64 0, .int .i64 0, .int .i64 0, .bool false]) 64 Tryz.underlying46 hi hz0 hz1 hz2 rfl (by decide) (by decide) (.slice adk G.length capk) G rfl O2 (some ⟨u0.heap.size, 0, none⟩) 1 [(⟨2, (k : Int), 0, 0, 0, 0, 0, h.op⟩ : Ou)] rfl (fun e => by cases e) V1 ?z0 ?z1 ?_) | go_in)
            case z0 => simp; omega
            case z1 => simp; omega
            intro vZ wZ hownZ hgrowZ hoZ
            have gsz := hgrowZ.size
            simp only [World.size_alloc] at gsz
            have sZ : ∀ g_, vZ.ownBlock = some g_ → g_ = E ∨ Y4.heap.size ≤ g_ := fun g_ e => by
              rcases hoZ with q | q
              · exact sO g_ (by rw [← q]; exact e)
              · rw [q] at e
                simp at e
                omega
            have BarZ : Bar E Y4.heap.size Y4 wZ := ⟨by omega, fun q hq hne => (hgrowZ.block q (by simp; omega) (fun e => by have := sO q e.symm; omega)).trans ((Below.heap_alloc _ _ q (by omega)).trans (hBar2.block q hq hne))⟩
            have BZ6 : Below w.heap.size w wZ := (B6.alloc B6.size _).grown hgrowZ (by simp; have := B6.size; omega) (fun g_ e => by have := sO g_ e; omega)
            clear hgrowZ V1 O2 c0 c1 c2 c3 c4 c5 c6 c7 c8 c9 c10 n0 n1 hoZ
            go_wp2
            go_roundw
            case rel => exact ⟨k + 1, by omega, by go_num, by rw [hN.out]; exact hownZ, sZ, BarZ, BZ6⟩
            case measure => simp [intOf]; omega
        · obtain rfl : k = L.length := by omega
          obtain ⟨G, hG⟩ : ∃ G, gatesTo L T L.length = G := ⟨_, rfl⟩
          have gl := gates_len L T L.length
          rw [hG] at O sO gl hO2 ⊢
          replace hO2 : Hid _ := hO2
          clear hG
          have X5 := X0.keep (hBar.block _ X0.lt (by omega))
          have R5 := R0.keep (hBar.block _ R0.lt (by omega))
          have cc_ := X5
          obtain ⟨x0, x1, x2, x3, x4, x5, x6, x7⟩ := cc_
          have cp_ := P5
          obtain ⟨n0, n1⟩ := cp_
          by_cases hk2 : x.k = 2
          · have hO3 : Hid (OO = G ++ toldTo id T T.length) := by unfold Hid; rw [hO2.out, if_pos hk2]
            replace hk2 : Hid _ := hk2
            clear hO2
            have gl4 : G.length ≤ 4 := by omega
            go_upto_region 10 with fail
            go_wp2
            clear x0 x1 x2 x3 x4 x5 x6 x7 n0 n1 a0 a1 A5 P5 X5 R5
            go_loopw [6, 9] (fun v i ws => ∃ k : Nat, k ≤ T.length ∧ i = .int .i64 (k : Int) ∧ FOwn ouEnc 8 114 E ws v (G ++ toldTo id T k) ∧ (∀ g_, v.ownBlock = some g_ → g_ = E ∨ Y4.heap.size ≤ g_) ∧ Bar E Y4.heap.size Y4 ws ∧ Below w.heap.size w ws) (fun _ i _ => T.length - (intOf i).toNat)
            case atStart => exact ⟨0, Nat.zero_le _, rfl, by rw [show toldTo id T 0 = [] from rfl, List.append_nil]; exact O, sO, hBar, B5⟩
            case round =>
              clear O sO hBar B5
              obtain ⟨k, hk, rfl, O, sO, hBar, B5⟩ := hrel
              obtain ⟨adk, capk, rfl⟩ := O.open_
              have z5 := hBar.size
              have P5 := NP.bar hBar NP.lt (by omega)
              have X5 := X0.keep (hBar.block _ X0.lt (by omega))
              have R5 := R0.keep (hBar.block _ R0.lt (by omega))
              have cc_ := X5
              obtain ⟨x0, x1, x2, x3, x4, x5, x6, x7⟩ := cc_
              have dk : (x.k == 2) = true := by simpa using hk2.out
              have cp_ := P5
              obtain ⟨n0, n1⟩ := cp_
              by_cases hlt : k < T.length
              · have vT5 : FView ptEnc wr aT T := vT.carry fun a e p => hBar.block _ (vtb a e p).2 (by have := (vtb a e p).1; omega)
                obtain ⟨bt_, ot_, rfl, _⟩ := vT5 (by omega)
                obtain ⟨h, hh⟩ : ∃ h, T.getD k Pt.nil = h := ⟨_, rfl⟩
                obtain ⟨c0, c1, c2, c3, c4, c5, c6, c7, c8, c9, c10⟩ : PtAtO wr bt_ (ot_ + k * 11) h := by rw [← hh]; exact ptAtO_of (vT5.at_ ptEnc_len Pt.nil hlt)
                replace hh : Hid _ := hh
                have tl := told_len id T k
                obtain ⟨H, hH⟩ : ∃ H, toldTo id T k = H := ⟨_, rfl⟩
                rw [hH] at O tl sO ⊢
                obtain ⟨GH, hGH⟩ : ∃ GH, G ++ H = GH := ⟨_, rfl⟩
                have gh8 : GH.length ≤ 8 := by rw [← hGH, List.length_append]; omega
                rw [hGH] at O sO ⊢
                have hHN : Hid (G ++ toldTo id T k = GH) := by unfold Hid; rw [hH, hGH]
                clear hH hGH
                by_cases ho : h.ro = 2
                · have dr : (h.ro == 2) = true := by simpa using ho
                  obtain ⟨⟨v1, v2, v3, v4⟩, hov⟩ : ∃ v, ownR id T k = v := ⟨_, rfl⟩
                  obtain ⟨hq_, hhq⟩ : ∃ v, hopsR id T = v := ⟨_, rfl⟩
                  have hN : Hid (G ++ toldTo id T (k + 1) = GH ++ [(⟨1, (k : Int), v1, v2, v3, v4, hq_, false⟩ : Ou)]) := by unfold Hid; rw [told_yes hh.out ho, ← List.append_assoc, hHN.out]; unfold toldO; rw [hov, hhq]
                  replace ho : Hid _ := ho
                  replace hov : Hid _ := hov
                  replace hhq : Hid _ := hhq
                  have hiT := hi
                  go_upto_region 14 with fail
                  clear c0 c1 c2 c3 c4 c5 c6 c7 c8 c9 c10 x0 x1 x2 x3 x4 x5 x6 x7 n0 n1 vT5
                  refine wp_region_held (S := fun Y => Bar E Y4.heap.size Y4 Y) (by kernel_rfl) ?_
                  change wpAnyH _ _ _ _ _ _ _ _ (World.drew _)
                  have ha0 : Below wr.heap.size wr wr.drew := (Below.refl _ _).drew
                  obtain ⟨u0, hy0⟩ : ∃ y_, y_ = wr.drew := ⟨_, rfl⟩
                  rw [← hy0] at ha0 ⊢
                  clear hy0
                  have hb0 : Bar E Y4.heap.size Y4 u0 := ⟨Nat.le_trans hBar.size ha0.size, fun q hq hne => (ha0.block q (by omega)).trans (hBar.block q hq hne)⟩
                  refine takeW 0 84 (.slice adk GH.length capk) rfl rfl (by kernel_rfl) (by kernel_rfl) (by kernel_rfl) (fun _ _ _ h => h) (by kernel_rfl) (by (intro w hSw; go_simp)) (by assumption) ?_
                  simp only [List.set_cons_zero, List.set_cons_succ]
                  refine takeW 1 85 (.int .i64 (k : Int)) rfl rfl (by kernel_rfl) (by kernel_rfl) (by kernel_rfl) (fun _ _ _ h => h) (by kernel_rfl) (by (intro w hSw; go_simp)) (by assumption) ?_
                  simp only [List.set_cons_zero, List.set_cons_succ]
                  refine takeW 2 86 (.agg #[.int .i64 id, .slice (some ⟨bt_, ot_, none⟩) T.length cT]) rfl rfl (by kernel_rfl) (by kernel_rfl) (by kernel_rfl) (fun _ _ _ h => h) (by kernel_rfl) (by (intro Y hSw; obtain ⟨X0_, X1_⟩ := NP.bar hSw NP.lt (by omega); go_simp)) (by assumption) ?_
                  simp only [List.set_cons_zero, List.set_cons_succ]
                  refine takeW 3 87 (.int .i64 (k : Int)) rfl rfl (by kernel_rfl) (by kernel_rfl) (by kernel_rfl) (fun _ _ _ h => h) (by kernel_rfl) (by (intro w hSw; go_simp)) (by assumption) ?_
                  simp only [List.set_cons_zero, List.set_cons_succ]
                  refine takeW 5 89 (.agg #[.int .i64 id, .slice (some ⟨bt_, ot_, none⟩) T.length cT]) rfl rfl (by kernel_rfl) (by kernel_rfl) (by kernel_rfl) (fun _ _ _ h => h) (by kernel_rfl) (by (intro Y hSw; obtain ⟨X0_, X1_⟩ := NP.bar hSw NP.lt (by omega); go_simp)) (by assumption) ?_
                  simp only [List.set_cons_zero, List.set_cons_succ]
                  refine wpAnyH_all (rs := [4]) (by kernel_rfl) (by simp) ?_
                  intro i hi; obtain rfl : i = 4 := by simpa using hi
                  refine wpOp_step rfl (fun K hK => ?_)
                  rw [if_pos (by kernel_rfl)]
                  go_simp
                  go_at_call 137
                  refine (ownS id (some ⟨bt_, ot_, none⟩) cT T (k : Int) u0 (vT.carry fun a e p => hb0.block _ (vtb a e p).2 (by have := (vtb a e p).1; omega)) (by omega)).mono ?_
                  rintro e u1 ⟨rfl, kq⟩
                  have ha1 : Below wr.heap.size wr u1 := ha0.trans (kq.mono ha0.size)
                  have hb1 : Bar E Y4.heap.size Y4 u1 := ⟨Nat.le_trans hBar.size ha1.size, fun q hq hne => (ha1.block q (by omega)).trans (hBar.block q hq hne)⟩
                  clear kq
                  rw [hov.out]
                  refine hK _ _ ⟨hb1, ?_⟩
                  clear hK K hi
                  refine wpAnyH_all (rs := [6]) (by kernel_rfl) (by simp) ?_
                  intro i hi; obtain rfl : i = 6 := by simpa using hi
                  refine wpOp_step rfl (fun K hK => ?_)
                  rw [if_pos (by kernel_rfl)]
                  go_simp
                  go_at_call 138
                  refine (hopsS id (some ⟨bt_, ot_, none⟩) cT T u1 (vT.carry fun a e p => hb1.block _ (vtb a e p).2 (by have := (vtb a e p).1; omega)) (by omega)).mono ?_
                  rintro e u2 ⟨rfl, kq⟩
                  have ha2 : Below wr.heap.size wr u2 := ha1.trans (kq.mono ha1.size)
                  have hb2 : Bar E Y4.heap.size Y4 u2 := ⟨Nat.le_trans hBar.size ha2.size, fun q hq hne => (ha2.block q (by omega)).trans (hBar.block q hq hne)⟩
                  clear kq
                  rw [hhq.out]
                  refine hK _ _ ⟨hb2, ?_⟩
                  clear hK K hi
                  refine takeW 7 91 (.agg #[.int .i64 1, .int .i64 (k : Int), .int .i64 v1, .int .i64 v2, .int .i64 v3, .int .i64 v4, .int .i64 hq_, .bool false]) rfl rfl (by kernel_rfl) (by kernel_rfl) (by kernel_rfl) (fun _ _ _ h => h) (by kernel_rfl) (by (intro w hSw; go_simp)) (by assumption) ?_
                  simp only [List.set_cons_zero, List.set_cons_succ]
                  refine wpAnyH_all (rs := [8]) (by kernel_rfl) (by simp) ?_
                  intro i hi; obtain rfl : i = 8 := by simpa using hi
                  refine wpOp_step rfl (fun K_ hK_ => ?_)
                  rw [if_pos (by kernel_rfl)]
                  go_simp
                  obtain ⟨u3, hu3⟩ : ∃ y_, y_ = u2.alloc (Obj.cells #[.int .i64 1, .int .i64 (k : Int), .int .i64 v1, .int .i64 v2, .int .i64 v3, .int .i64 v4, .int .i64 hq_, .bool false] 114) := ⟨_, rfl⟩
                  have V1 : FView ouEnc u3 (some ⟨u2.heap.size, 0, none⟩) [(⟨1, (k : Int), v1, v2, v3, v4, hq_, false⟩ : Ou)] := by rw [hu3]; exact FView.oneO u2 114 ⟨1, (k : Int), v1, v2, v3, v4, hq_, false⟩
                  have kq : Below u2.heap.size u2 u3 := by rw [hu3]; exact below_new _
                  have ha3 : Below wr.heap.size wr u3 := ha2.trans (kq.mono ha2.size)
                  have hb3 : Bar E Y4.heap.size Y4 u3 := ⟨Nat.le_trans hBar.size ha3.size, fun q hq hne => (ha3.block q (by omega)).trans (hBar.block q hq hne)⟩
                  clear kq
                  rw [← hu3]
                  clear hu3
                  generalize u2.heap.size = Ee at V1 ⊢
                  refine hK_ _ _ ⟨hb3, ?_⟩
                  clear hK_ K_ hi
                  have O2 : FOwn ouEnc 8 114 E u3 (.slice adk GH.length capk) GH := O.later ha3
                  have z6 := ha3.size
                  have B6 := B5.trans (ha3.mono B5.size)
                  refine wpAnyH_all (rs := [9]) (by kernel_rfl) (by simp) ?_
                  intro i hi; obtain rfl : i = 9 := by simpa using hi
                  refine wpOp_step rfl (fun K_ hK_ => ?_)
                  rw [if_pos (by kernel_rfl)]
                  refine fapp ouEnc_len ouEnc_ones 93 _ _ 46 rfl rfl E 114 i0 (.agg #[.int .i64 0, .int .i64 0, .int .i64 0, .int .i64 0, .int .i64 0, .int .i64 0, .int .i64 0, .bool false]) 64 Tryz.underlying46 hiT hz0 hz1 hz2 rfl (by decide) (by decide) (.slice adk GH.length capk) GH rfl O2 (some ⟨Ee, 0, none⟩) 1 [(⟨1, (k : Int), v1, v2, v3, v4, hq_, false⟩ : Ou)] rfl (fun e => by cases e) V1 (by simp; omega) (by omega) ?_
                  intro vZ wZ hownZ gZ hoZ
                  have gsz := gZ.size
                  have sZ : ∀ g_, vZ.ownBlock = some g_ → g_ = E ∨ Y4.heap.size ≤ g_ := fun g_ e => by
                    rcases hoZ with q | q
                    · exact sO g_ (by rw [← q]; exact e)
                    · rw [q] at e
                      simp at e
                      omega
                  have BarZ : Bar E Y4.heap.size Y4 wZ := ⟨by omega, fun q hq hne => (gZ.block q (by omega) (fun e => by have := sO q e.symm; omega)).trans (hb3.block q hq hne)⟩
                  have BZ6 : Below w.heap.size w wZ := B6.grown gZ B6.size (fun g_ e => by have := sO g_ e; omega)
                  clear gZ V1 O2 hoZ
                  simp only [List.set_cons_zero, List.set_cons_succ]
                  refine hK_ _ _ ⟨BarZ, ?_⟩
                  clear hK_ K_ hi
                  refine takeW 10 6 vZ rfl rfl (by kernel_rfl) (by kernel_rfl) (by kernel_rfl) (fun _ _ _ h => h) (by kernel_rfl) (by (intro w hSw; go_simp)) (by assumption) ?_
                  simp only [List.set_cons_zero, List.set_cons_succ]
                  refine wpAnyH_done (by kernel_rfl) ?_ _
                  clear O ha0 ha1 ha2 ha3 hb0 hb1 hb2 hb3
                  go_wp2
                  go_roundw
                  case rel => exact ⟨k + 1, by omega, by go_num, by rw [hN.out]; exact hownZ, sZ, BarZ, BZ6⟩
                  case measure => simp [intOf]; omega
                · have dr : (h.ro == 2) = false := by simpa using ho
                  have hN : Hid (G ++ toldTo id T (k + 1) = GH) := by unfold Hid; rw [told_no hh.out ho, hHN.out]
                  replace ho : Hid _ := ho
                  go_wp2
                  go_roundw
                  case rel => exact ⟨k + 1, by omega, by go_num, by rw [hN.out]; exact O, sO, hBar, B5⟩
                  case measure => simp [intOf]; omega
              · obtain rfl : k = T.length := by omega
                obtain ⟨Z, hZ⟩ : ∃ Z, G ++ toldTo id T T.length = Z := ⟨_, rfl⟩
                rw [hZ] at O sO hO3 ⊢
                replace hO3 : Hid _ := hO3
                clear hZ
                go_upto_region 15 with fail
                clear x0 x1 x2 x3 x4 x5 x6 x7 n0 n1
                have OT : FOwn ptEnc 11 109 Y2.heap.size wr (.slice aT T.length cT) T := oT.keep fun g_ e => hBar.block g_ (oT.lt g_ e).2 (by have := (oT.lt g_ e).1; omega)
                have JJ : ∀ g_, (Value.slice adk (Z).length capk).ownBlock = some g_ → (Value.slice aT T.length cT).ownBlock ≠ some g_ := fun g_ e e2 => by have h1 := sO g_ e; have h2 := oT.lt g_ e2; omega
                have RP := R5.put id (.slice aT T.length cT)
                have S8 : w.heap.size + 1 + 1 < wr.heap.size := R5.lt
                obtain ⟨⟨r0, r1⟩, rf⟩ := R5
                have BZ := (B5.setCell (p := ⟨w.heap.size + 1 + 1, 0, none⟩) (by show _ ≤ w.heap.size + 1 + 1; omega) (.int .i64 id)).setCell (p := ⟨w.heap.size + 1 + 1, 1, none⟩) (by show _ ≤ w.heap.size + 1 + 1; omega) (.slice aT T.length cT)
                have OZ : FOwn ptEnc 11 109 w.heap.size ((wr.setCell ⟨w.heap.size + 1 + 1, 0, none⟩ (.int .i64 id)).setCell ⟨w.heap.size + 1 + 1, 1, none⟩ (.slice aT T.length cT)) (.slice aT T.length cT) T := (OT.base (by omega)).keep fun g' e => by
                  have := (OT.lt g' e).1
                  rw [Below.heap_setCell _ _ _ _ (by show g' ≠ w.heap.size + 1 + 1; omega), Below.heap_setCell _ _ _ _ (by show g' ≠ w.heap.size + 1 + 1; omega)]
                have OQ : FOwn ouEnc 8 114 w.heap.size ((wr.setCell ⟨w.heap.size + 1 + 1, 0, none⟩ (.int .i64 id)).setCell ⟨w.heap.size + 1 + 1, 1, none⟩ (.slice aT T.length cT)) (.slice adk (Z).length capk) (Z) := (O.base (by omega)).keep fun g' e => by
                  have := (O.lt g' e).1
                  rw [Below.heap_setCell _ _ _ _ (by show g' ≠ w.heap.size + 1 + 1; omega), Below.heap_setCell _ _ _ _ (by show g' ≠ w.heap.size + 1 + 1; omega)]
                obtain ⟨⟨p0, p1⟩, _⟩ := RP
                obtain ⟨n0, n1⟩ := P5
                go_wp2
                refine bodyPost_ret (v := .tuple #[.agg #[.int .i64 id, .slice aT T.length cT], .slice adk (Z).length capk]) (by simp [results, Tryz.results77, go_sem, *]) rfl ⟨aT, cT, adk, capk, by rw [hD2.out, hO3.out], by rw [hD2.out]; exact OZ, by rw [hO3.out]; exact OQ, by rw [hD2.out, hO3.out]; exact JJ, BZ⟩
          · have dk : (x.k == 2) = false := by simpa using hk2
            have hO3 : Hid (OO = G) := by unfold Hid; rw [hO2.out, if_neg hk2, List.append_nil]
            have d0 : decide ((0 : Int) < (T.length : Int)) = true := decide_eq_true (by omega)
            have d0' : decide (0 < T.length) = true := decide_eq_true (by omega)
            replace hk2 : Hid _ := hk2
            clear hO2
            go_upto_region 10 with fail
            go_wp2
            refine wp_loop_rounds 1 ?_; rw [rounds_succ]
            go_upto_region 15 with fail
            clear x0 x1 x2 x3 x4 x5 x6 x7 n0 n1
            have OT : FOwn ptEnc 11 109 Y2.heap.size wr (.slice aT T.length cT) T := oT.keep fun g_ e => hBar.block g_ (oT.lt g_ e).2 (by have := (oT.lt g_ e).1; omega)
            have JJ : ∀ g_, (Value.slice adk (G).length capk).ownBlock = some g_ → (Value.slice aT T.length cT).ownBlock ≠ some g_ := fun g_ e e2 => by have h1 := sO g_ e; have h2 := oT.lt g_ e2; omega
            have RP := R5.put id (.slice aT T.length cT)
            have S8 : w.heap.size + 1 + 1 < wr.heap.size := R5.lt
            obtain ⟨⟨r0, r1⟩, rf⟩ := R5
            have BZ := (B5.setCell (p := ⟨w.heap.size + 1 + 1, 0, none⟩) (by show _ ≤ w.heap.size + 1 + 1; omega) (.int .i64 id)).setCell (p := ⟨w.heap.size + 1 + 1, 1, none⟩) (by show _ ≤ w.heap.size + 1 + 1; omega) (.slice aT T.length cT)
            have OZ : FOwn ptEnc 11 109 w.heap.size ((wr.setCell ⟨w.heap.size + 1 + 1, 0, none⟩ (.int .i64 id)).setCell ⟨w.heap.size + 1 + 1, 1, none⟩ (.slice aT T.length cT)) (.slice aT T.length cT) T := (OT.base (by omega)).keep fun g' e => by
              have := (OT.lt g' e).1
              rw [Below.heap_setCell _ _ _ _ (by show g' ≠ w.heap.size + 1 + 1; omega), Below.heap_setCell _ _ _ _ (by show g' ≠ w.heap.size + 1 + 1; omega)]
            have OQ : FOwn ouEnc 8 114 w.heap.size ((wr.setCell ⟨w.heap.size + 1 + 1, 0, none⟩ (.int .i64 id)).setCell ⟨w.heap.size + 1 + 1, 1, none⟩ (.slice aT T.length cT)) (.slice adk (G).length capk) (G) := (O.base (by omega)).keep fun g' e => by
              have := (O.lt g' e).1
              rw [Below.heap_setCell _ _ _ _ (by show g' ≠ w.heap.size + 1 + 1; omega), Below.heap_setCell _ _ _ _ (by show g' ≠ w.heap.size + 1 + 1; omega)]
            obtain ⟨⟨p0, p1⟩, _⟩ := RP
            obtain ⟨n0, n1⟩ := P5
            go_wp2
            refine bodyPost_ret (v := .tuple #[.agg #[.int .i64 id, .slice aT T.length cT], .slice adk (G).length capk]) (by simp [results, Tryz.results77, go_sem, *]) rfl ⟨aT, cT, adk, capk, by rw [hD2.out, hO3.out], by rw [hD2.out]; exact OZ, by rw [hO3.out]; exact OQ, by rw [hD2.out, hO3.out]; exact JJ, BZ⟩

end Go.Proofs.YtnpiljegdiconaaGreat
namespace Go.Proofs.YtnpiljegdiconaaGreat
open Go.ChangeShapes Go.WideShapes Go.ChangeAt Go.RowKit
open Go.ChangeMaps (open_string shut_string)
set_option linter.unusedVariables false
set_option maxRecDepth 100000

theorem bOk_len4 {id : Int} {L : List Pt} (h : bOk id L = true) : L.length ≤ 4 := (bOk_all h).2.1.2
theorem reactO_len (id : Int) (L : List Pt) (x : Ik) : (reactO id L x).length ≤ 8 := by
  unfold reactO
  split
  · rename_i h
    unfold goes at h
    simp only [Bool.and_eq_true] at h
    have h4 := bOk_len4 h.1
    have h1 := gates_len L (afterL id L x) L.length
    have h2 := told_len id (afterL id L x) L.length
    rw [List.length_append]
    split
    · omega
    · simp; omega
  · simp

end Go.Proofs.YtnpiljegdiconaaGreat
namespace Go.Proofs.YtnpiljegdiconaaGreat
open Go.ChangeShapes Go.WideShapes Go.ChangeAt Go.RowKit
open Go.ChangeMaps (open_string shut_string)
set_option linter.unusedVariables false
set_option maxRecDepth 100000

theorem FView.take {X : Type} {enc : X → List Value} {w : World} {ad : Option Addr} {L : List X} (h : FView enc w ad L) (k : Nat) : FView enc w ad (L.take k) := by
  intro hp
  obtain ⟨b, off, e, hc⟩ := h (by rw [List.length_take] at hp; omega)
  refine ⟨b, off, e, fun j v hv => hc j v ?_⟩
  rw [← List.take_append_drop k L, fcells_app, List.getElem?_append_left (List.getElem?_eq_some_iff.1 hv).1]
  exact hv
/-- The bridge that a log tells of. -/
def ofR (id n : Int) (X : List Ik) : List Pt := ofL (newI id n) (newL id n) X
theorem newL_small (id n : Int) : (newL id n).length ≤ 4 := by
  unfold newL
  split
  · rename_i q
    unfold nOk at q
    simp only [Bool.and_eq_true, decide_eq_true_eq] at q
    rw [List.length_replicate]
    omega
  · simp
theorem ofR_len (id n : Int) (X : List Ik) : (ofR id n X).length ≤ 4 := by
  unfold ofR; rw [ofL_len]; exact newL_small id n
theorem ofR_not {id n : Int} (X : List Ik) (h : nOk id n = false) : ofR id n X = [] ∧ newI id n = 0 := by
  have e1 : newI id n = 0 := by unfold newI; rw [h]; rfl
  have e2 : newL id n = [] := by unfold newL; rw [h]; rfl
  refine ⟨?_, e1⟩
  unfold ofR
  rw [e1, e2]
  exact ofL_not X (by decide)
/-- What a log says at one of its places. -/
def sayR (id n : Int) (X : List Ik) (i : Int) : List Ou := sayL (newI id n) (newL id n) X Ik.nil i
theorem sayR_len (id n : Int) (X : List Ik) (i : Int) : (sayR id n X i).length ≤ 8 := by
  unfold sayR sayL
  split
  · exact reactO_len _ _ _
  · simp
theorem BBox.put1 {w : World} {q : Nat} {id : Int} {v : Value} (h : BBox w q id v) (id' : Int) (v' : Value) (k : Nat) (hk : k ≠ q) : ((w.setCell ⟨q, 0, none⟩ (.int .i64 id')).setCell ⟨q, 1, none⟩ v').heap[k]? = w.heap[k]? := by
  rw [Below.heap_setCell _ _ _ _ hk, Below.heap_setCell _ _ _ _ hk]

end Go.Proofs.YtnpiljegdiconaaGreat
namespace Go.Proofs.YtnpiljegdiconaaGreat
open Go.ChangeShapes Go.WideShapes Go.ChangeAt Go.RowKit
open Go.ChangeMaps (open_string shut_string)
set_option linter.unusedVariables false
set_option maxRecDepth 100000

theorem MdAtO.belowJ {w w' : World} {q o n : Nat} {x : MiD} (h : MdAtO w q o x) (k : Below n w w') (hq : q < n) : MdAtO w' q o x :=
  ⟨(World.cell?_of_block (a := ⟨q, o, none⟩) (k.block q hq)).trans h.c0, (World.cell?_of_block (a := ⟨q, o + 1, none⟩) (k.block q hq)).trans h.c1, (World.cell?_of_block (a := ⟨q, o + 2, none⟩) (k.block q hq)).trans h.c2, (World.cell?_of_block (a := ⟨q, o + 3, none⟩) (k.block q hq)).trans h.c3, (World.cell?_of_block (a := ⟨q, o + 4, none⟩) (k.block q hq)).trans h.c4, (World.cell?_of_block (a := ⟨q, o + 5, none⟩) (k.block q hq)).trans h.c5, (World.cell?_of_block (a := ⟨q, o + 6, none⟩) (k.block q hq)).trans h.c6⟩
theorem bxOk_smJ {x : BxD} (h : bxOk x.p = true) : x.two.length = 2 ∧ (∀ k, k < 2 → miOk (x.two.getD k MiD.nil).m = true) ∧ x.net.length ≤ 20 ∧ x.ga.length ≤ 4 ∧ x.ln.length ≤ 60 ∧ x.sd.length ≤ 40 := by
  obtain ⟨h1, h2, h3, h4, h5, h6, h7, h8, h9, h10⟩ := bxOk_is.1 h
  have e : x.two.length = 2 := by have h3 : (x.two.map MiD.m).length = 2 := h3; simpa using h3
  refine ⟨e, ?_, h7, ?_, ?_, h10⟩
  · intro k hk
    rcases (by omega : k = 0 ∨ k = 1) with rfl | rfl
    · rw [mOf_p] at h4; exact h4
    · rw [mOf_p] at h5; exact h5
  · unfold nOk at h1
    simp only [Bool.and_eq_true, decide_eq_true_eq] at h1
    have h8 : (x.ga.length : Int) = x.po := h8
    have := h1.2.2
    have h9 : x.p.po = x.po := rfl
    omega
  · unfold insB at h9
    simp only [Bool.and_eq_true, decide_eq_true_eq] at h9
    exact h9.2
theorem miOk_lgJ {m : Mi} (h : miOk m = true) : m.lg.length ≤ 60 := by
  obtain ⟨_, _, _, h4, _⟩ := miOk_iff.1 h
  unfold insB at h4
  simp only [Bool.and_eq_true, decide_eq_true_eq] at h4
  exact h4.2
/-- Answers whether Q. -/
def YN (e : Ending) (Q : Prop) : Prop := ∃ R : Bool, e = .returned (.bool R) ∧ (R = true ↔ Q)
theorem YN.no {Q : Prop} (h : ¬ Q) : YN (.returned (.bool false)) Q := ⟨false, rfl, ⟨fun h => (by cases h), fun q => absurd q h⟩⟩
theorem YN.yes {Q : Prop} (h : Q) : YN (.returned (.bool true)) Q := ⟨true, rfl, ⟨fun _ => h, fun _ => rfl⟩⟩
theorem YN.is {Q : Prop} {R : Bool} (h : R = true ↔ Q) : YN (.returned (.bool R)) Q := ⟨R, rfl, h⟩
/-- All that is said of a log, one bridge going through it. -/
def outsA (id : Int) (L : List Pt) (X : List Ik) : List Ou := (X.foldl (fun p x => (reactL id p.1 x, p.2 ++ reactO id p.1 x)) (L, ([] : List Ou))).2
theorem outsA_run (id : Int) (X : List Ik) : ∀ (L : List Pt) (P : List Ou), X.foldl (fun p x => (reactL id p.1 x, p.2 ++ reactO id p.1 x)) (L, P) = (ofL id L X, P ++ outsA id L X) := by
  induction X with
  | nil => intro L P; simp [outsA, ofL]
  | cons x X ih =>
    intro L P
    have h1 := ih (reactL id L x) (P ++ reactO id L x)
    have h2 := ih (reactL id L x) ([] ++ reactO id L x)
    have h3 : outsA id L (x :: X) = (X.foldl (fun p x => (reactL id p.1 x, p.2 ++ reactO id p.1 x)) (reactL id L x, [] ++ reactO id L x)).2 := rfl
    rw [List.foldl_cons, h3, h2]
    show X.foldl (fun p x => (reactL id p.1 x, p.2 ++ reactO id p.1 x)) (reactL id L x, P ++ reactO id L x) = _
    rw [h1]
    simp [ofL]
theorem outsA_snoc (id : Int) (L : List Pt) (X : List Ik) (x : Ik) : outsA id L (X ++ [x]) = outsA id L X ++ reactO id (ofL id L X) x := by
  have h1 := outsA_run id X L []
  unfold outsA
  rw [List.foldl_append, h1]
  simp [outsA]
theorem outsA_step (id : Int) (L : List Pt) (X : List Ik) (d : Ik) {k : Nat} (hk : k < X.length) : outsA id L (X.take (k + 1)) = outsA id L (X.take k) ++ reactO id (ofL id L (X.take k)) (X.getD k d) := by
  rw [List.take_add_one]
  have e : X[k]?.toList = [X.getD k d] := by simp [List.getD, hk]
  rw [e, outsA_snoc]
theorem outsA_len (id : Int) (L : List Pt) (X : List Ik) : (outsA id L X).length ≤ 8 * X.length := by
  have h : ∀ k, k ≤ X.length → (outsA id L (X.take k)).length ≤ 8 * k := by
    intro k
    induction k with
    | zero => intro _; simp [outsA]
    | succ k ih =>
      intro hk
      rw [outsA_step id L X ikN (by omega), List.length_append]
      have := ih (by omega)
      have := reactO_len id (ofL id L (X.take k)) (X.getD k ikN)
      omega
  have := h X.length (Nat.le_refl _)
  rwa [List.take_length] at this
/-- The gates are those of the bridge of Line. -/
def gatesJ (x : Bx) : Prop := gatesR (ofR x.id x.po x.ln) = x.ga
/-- What was said is what the bridge of Line would have said. -/
def saidJ (x : Bx) : Prop := lastS (outsA (newI x.id x.po) (newL x.id x.po) x.ln) = x.sd
def begJ (A B : List Ik) : Prop := B.take A.length = A
theorem begJ_len {A B : List Ik} (h : begJ A B) : A.length ≤ B.length := by
  have := congrArg List.length h
  rw [List.length_take] at this
  omega
def ownJ (x : Bx) : Prop := mindsX x x.rg.ow = true → begJ x.ln (mOf x x.rg.ow).lg ∧ (mOf x x.rg.ow).sd = (x.ln.length : Int)
def pairJ (x : Bx) : Prop := (mOf x (1 - x.rg.ow)).up = true ∧ 0 < (mOf x (1 - x.rg.ow)).li ∧ (mOf x (1 - x.rg.ow)).li = x.rg.pa ∧ (mOf x (1 - x.rg.ow)).ep = 0
def hasJ (x : Bx) : Prop := pairJ x → begJ x.ln (mOf x (1 - x.rg.ow)).lg
/-- A box that can be read, its logs within their room. -/
structure BxJ (w : World) (x : BxD) : Prop where
  v : BxV w x
  c : ∀ i, i < x.two.length → (x.two.getD i MiD.nil).m.lg.length ≤ (x.two.getD i MiD.nil).cap
theorem BxJ.later {w w' : World} {x : BxD} (h : BxJ w x) (k : Below w.heap.size w w') : BxJ w' x := ⟨h.v.later k, h.c⟩
theorem bxOk_ow {x : BxD} (h : bxOk x.p = true) : 0 ≤ x.rg.ow ∧ x.rg.ow ≤ 1 := by
  obtain ⟨h1, h2, _⟩ := bxOk_is.1 h
  have h2 : rgOk x.rg = true := h2
  unfold rgOk at h2
  simp only [Bool.and_eq_true, decide_eq_true_eq] at h2
  omega
theorem begJ_iff {A B : List Ik} (h : A.length ≤ B.length) : B.take A.length = A ↔ begJ A B := Iff.rfl

end Go.Proofs.YtnpiljegdiconaaGreat
namespace Go.Proofs.YtnpiljegdiconaaGreat
open Go.ChangeShapes Go.WideShapes Go.ChangeAt Go.RowKit
open Go.ChangeMaps (open_string shut_string)
set_option linter.unusedVariables false
set_option maxRecDepth 100000

theorem neqIk_same (x : Ik) (w : World) : (binOp .neq 105 (.agg #[.int .i64 x.k, .int .i64 x.q, .int .i64 x.r, .int .i64 x.c, .int .i64 x.b, .int .i64 x.p, .int .i64 x.h, .bool x.up]) (.agg #[.int .i64 x.k, .int .i64 x.q, .int .i64 x.r, .int .i64 x.c, .int .i64 x.b, .int .i64 x.p, .int .i64 x.h, .bool x.up])).run Tryz.prog w = .ok (.bool false) w := by
  simp [go_sem]
theorem neqIk_else {x y : Ik} (h : x ≠ y) (w : World) : (binOp .neq 105 (.agg #[.int .i64 x.k, .int .i64 x.q, .int .i64 x.r, .int .i64 x.c, .int .i64 x.b, .int .i64 x.p, .int .i64 x.h, .bool x.up]) (.agg #[.int .i64 y.k, .int .i64 y.q, .int .i64 y.r, .int .i64 y.c, .int .i64 y.b, .int .i64 y.p, .int .i64 y.h, .bool y.up])).run Tryz.prog w = .ok (.bool true) w := by
  by_cases h0 : x.k = y.k
  rotate_left
  · simp [go_sem, h0]
  by_cases h1 : x.q = y.q
  rotate_left
  · simp [go_sem, h1]
  by_cases h2 : x.r = y.r
  rotate_left
  · simp [go_sem, h2]
  by_cases h3 : x.c = y.c
  rotate_left
  · simp [go_sem, h3]
  by_cases h4 : x.b = y.b
  rotate_left
  · simp [go_sem, h4]
  by_cases h5 : x.p = y.p
  rotate_left
  · simp [go_sem, h5]
  by_cases h6 : x.h = y.h
  rotate_left
  · simp [go_sem, h6]
  by_cases h7 : x.up = y.up
  rotate_left
  · simp [go_sem, h7]
  exact absurd (by cases x; cases y; simp_all) h
theorem neqOu_same (x : Ou) (w : World) : (binOp .neq 114 (.agg #[.int .i64 x.k, .int .i64 x.pt, .int .i64 x.r, .int .i64 x.c, .int .i64 x.b, .int .i64 x.p, .int .i64 x.h, .bool x.on]) (.agg #[.int .i64 x.k, .int .i64 x.pt, .int .i64 x.r, .int .i64 x.c, .int .i64 x.b, .int .i64 x.p, .int .i64 x.h, .bool x.on])).run Tryz.prog w = .ok (.bool false) w := by
  simp [go_sem]
theorem neqOu_else {x y : Ou} (h : x ≠ y) (w : World) : (binOp .neq 114 (.agg #[.int .i64 x.k, .int .i64 x.pt, .int .i64 x.r, .int .i64 x.c, .int .i64 x.b, .int .i64 x.p, .int .i64 x.h, .bool x.on]) (.agg #[.int .i64 y.k, .int .i64 y.pt, .int .i64 y.r, .int .i64 y.c, .int .i64 y.b, .int .i64 y.p, .int .i64 y.h, .bool y.on])).run Tryz.prog w = .ok (.bool true) w := by
  by_cases h0 : x.k = y.k
  rotate_left
  · simp [go_sem, h0]
  by_cases h1 : x.pt = y.pt
  rotate_left
  · simp [go_sem, h1]
  by_cases h2 : x.r = y.r
  rotate_left
  · simp [go_sem, h2]
  by_cases h3 : x.c = y.c
  rotate_left
  · simp [go_sem, h3]
  by_cases h4 : x.b = y.b
  rotate_left
  · simp [go_sem, h4]
  by_cases h5 : x.p = y.p
  rotate_left
  · simp [go_sem, h5]
  by_cases h6 : x.h = y.h
  rotate_left
  · simp [go_sem, h6]
  by_cases h7 : x.on = y.on
  rotate_left
  · simp [go_sem, h7]
  exact absurd (by cases x; cases y; simp_all) h
set_option maxHeartbeats 4000000 in
theorem ikEql (ad ad' : Option Addr) (cap cap' : Nat) (L L' : List Ik) (w : World) (hv : FView ikEnc w ad L) (hv' : FView ikEnc w ad' L') (hl : L.length ≤ 1048576) (hl' : L'.length ≤ 1048576) :
    Calls Tryz.prog 196 #[.slice ad L.length cap, .slice ad' L'.length cap'] w fun e w' => YN e (L = L') ∧ Below w.heap.size w w' := by
  suffices H : ∀ Q : Prop, Hid (Q ↔ L = L') → Calls Tryz.prog 196 #[.slice ad L.length cap, .slice ad' L'.length cap'] w fun e w' => YN e Q ∧ Below w.heap.size w w' from H _ Iff.rfl
  intro Q hQ
  have hB := hv.lt ikEnc_len (by omega)
  have hB' := hv'.lt ikEnc_len (by omega)
  by_cases hle : (L.length : Int) = (L'.length : Int)
  rotate_left
  · have d1 : ((L.length : Int) != (L'.length : Int)) = true := by simp; omega
    have d2 : decide ((L.length : Int) = (L'.length : Int)) = false := decide_eq_false hle
    replace hQ : Hid (¬ Q) := fun h => by
      have := congrArg List.length (hQ.out.1 h)
      omega
    replace hle : Hid _ := hle
    go_enter Tryz.func196, Tryz.ntmps196
    go_wp2
    go_ret
    exact ⟨YN.no hQ.out, Below.refl _ _⟩
  have hll : Hid (L'.length = L.length) := by unfold Hid; omega
  rw [hll.out]
  clear hle
  go_enter Tryz.func196, Tryz.ntmps196
  go_wp2
  go_loopw [13] (fun i wr => ∃ k : Nat, k ≤ L.length ∧ i = .int .i64 k ∧ Hid (∀ j, j < k → L.getD j Ik.nil = L'.getD j Ik.nil) ∧ Below w.heap.size w wr) (fun i _ => L.length - (intOf i).toNat)
  case atStart => exact ⟨0, Nat.zero_le _, rfl, fun j hj => absurd hj (by omega), Below.refl _ _⟩
  case round =>
    obtain ⟨k, hk, rfl, hF, hb⟩ := hrel
    by_cases hlt : k < L.length
    · obtain ⟨b, off, rfl, _⟩ := hv (by omega)
      obtain ⟨b', off', rfl, _⟩ := hv' (by have := hll.out; omega)
      obtain ⟨h, hh⟩ : ∃ h, L.getD k Ik.nil = h := ⟨_, rfl⟩
      obtain ⟨h', hh'⟩ : ∃ h, L'.getD k Ik.nil = h := ⟨_, rfl⟩
      have hc : ∀ Y, Below wr.heap.size wr Y → IkAtO Y b (off + k * 8) h := fun Y hY => by rw [← hh]; exact ikAtO_of ((hv.below (hb.trans (hY.mono hb.size)) hB).at_ ikEnc_len Ik.nil hlt)
      have hc' : ∀ Y, Below wr.heap.size wr Y → IkAtO Y b' (off' + k * 8) h' := fun Y hY => by rw [← hh']; exact ikAtO_of ((hv'.below (hb.trans (hY.mono hb.size)) hB').at_ ikEnc_len Ik.nil (by have := hll.out; omega))
      replace hh : Hid _ := hh
      replace hh' : Hid _ := hh'
      clear hv hv' hB hB'
      by_cases he : h = h'
      · have heq : ∀ w, (binOp .neq 105 (.agg #[.int .i64 h.k, .int .i64 h.q, .int .i64 h.r, .int .i64 h.c, .int .i64 h.b, .int .i64 h.p, .int .i64 h.h, .bool h.up]) (.agg #[.int .i64 h'.k, .int .i64 h'.q, .int .i64 h'.r, .int .i64 h'.c, .int .i64 h'.b, .int .i64 h'.p, .int .i64 h'.h, .bool h'.up])).run Tryz.prog w = .ok (.bool false) w := fun w => by subst he; exact neqIk_same h w
        replace he : Hid _ := he
        go_upto_region 6 with fail
        refine wp_region_held (S := fun Y => Below wr.heap.size wr Y) (by kernel_rfl) ?_
        change wpAnyH _ _ _ _ _ _ _ _ (World.drew _)
        have hb0 : Below wr.heap.size wr wr.drew := (Below.refl _ _).drew
        obtain ⟨u0, hy0⟩ : ∃ y_, y_ = wr.drew := ⟨_, rfl⟩
        rw [← hy0] at hb0 ⊢
        clear hy0
        refine takeW 0 16 (.slice (some ⟨b, off, none⟩) L.length cap) rfl rfl (by kernel_rfl) (by kernel_rfl) (by kernel_rfl) (fun _ _ _ h => h) (by kernel_rfl) (by (intro w hSw; go_simp)) (by assumption) ?_
        simp only [List.set_cons_zero, List.set_cons_succ]
        refine takeW 1 17 (.int .i64 (k : Int)) rfl rfl (by kernel_rfl) (by kernel_rfl) (by kernel_rfl) (fun _ _ _ h => h) (by kernel_rfl) (by (intro w hSw; go_simp)) (by assumption) ?_
        simp only [List.set_cons_zero, List.set_cons_succ]
        refine takeW 2 18 (.pointer (some ⟨b, off + k * 8, none⟩)) rfl rfl (by kernel_rfl) (by kernel_rfl) (by kernel_rfl) (fun _ _ _ h => h) (by kernel_rfl) (by (intro Y hSw; go_simp; try omega)) (by assumption) ?_
        simp only [List.set_cons_zero, List.set_cons_succ]
        refine takeW 3 19 (.agg #[.int .i64 h.k, .int .i64 h.q, .int .i64 h.r, .int .i64 h.c, .int .i64 h.b, .int .i64 h.p, .int .i64 h.h, .bool h.up]) rfl rfl (by kernel_rfl) (by kernel_rfl) (by kernel_rfl) (fun _ _ _ h => h) (by kernel_rfl) (by (intro Y hSw; obtain ⟨X0, X1, X2, X3, X4, X5, X6, X7⟩ := hc Y hSw; go_simp)) (by assumption) ?_
        simp only [List.set_cons_zero, List.set_cons_succ]
        refine takeW 4 20 (.slice (some ⟨b', off', none⟩) L.length cap') rfl rfl (by kernel_rfl) (by kernel_rfl) (by kernel_rfl) (fun _ _ _ h => h) (by kernel_rfl) (by (intro w hSw; go_simp)) (by assumption) ?_
        simp only [List.set_cons_zero, List.set_cons_succ]
        refine takeW 5 21 (.int .i64 (k : Int)) rfl rfl (by kernel_rfl) (by kernel_rfl) (by kernel_rfl) (fun _ _ _ h => h) (by kernel_rfl) (by (intro w hSw; go_simp)) (by assumption) ?_
        simp only [List.set_cons_zero, List.set_cons_succ]
        refine takeW 6 22 (.pointer (some ⟨b', off' + k * 8, none⟩)) rfl rfl (by kernel_rfl) (by kernel_rfl) (by kernel_rfl) (fun _ _ _ h => h) (by kernel_rfl) (by (intro Y hSw; go_simp; try omega)) (by assumption) ?_
        simp only [List.set_cons_zero, List.set_cons_succ]
        refine takeW 7 23 (.agg #[.int .i64 h'.k, .int .i64 h'.q, .int .i64 h'.r, .int .i64 h'.c, .int .i64 h'.b, .int .i64 h'.p, .int .i64 h'.h, .bool h'.up]) rfl rfl (by kernel_rfl) (by kernel_rfl) (by kernel_rfl) (fun _ _ _ h => h) (by kernel_rfl) (by (intro Y hSw; obtain ⟨X0, X1, X2, X3, X4, X5, X6, X7⟩ := hc' Y hSw; go_simp)) (by assumption) ?_
        simp only [List.set_cons_zero, List.set_cons_succ]
        refine takeW 8 24 (.bool false) rfl rfl (by kernel_rfl) (by kernel_rfl) (by kernel_rfl) (fun _ _ _ h => h) (by kernel_rfl) (by (intro w hSw; have hq := heq w; go_simp)) (by assumption) ?_
        simp only [List.set_cons_zero, List.set_cons_succ]
        refine wpAnyH_done (by kernel_rfl) ?_ _
        go_wp2
        go_roundw
        case rel =>
          refine ⟨k + 1, by omega, by go_num, fun j hj => ?_, hb.trans (hb0.mono hb.size)⟩
          by_cases ej : j = k
          · rw [ej, hh.out, hh'.out]; exact he.out
          · exact hF.out j (by omega)
        case measure => simp [intOf]; omega
      · have heq : ∀ w, (binOp .neq 105 (.agg #[.int .i64 h.k, .int .i64 h.q, .int .i64 h.r, .int .i64 h.c, .int .i64 h.b, .int .i64 h.p, .int .i64 h.h, .bool h.up]) (.agg #[.int .i64 h'.k, .int .i64 h'.q, .int .i64 h'.r, .int .i64 h'.c, .int .i64 h'.b, .int .i64 h'.p, .int .i64 h'.h, .bool h'.up])).run Tryz.prog w = .ok (.bool true) w := fun w => neqIk_else he w
        replace he : Hid _ := he
        go_upto_region 6 with fail
        refine wp_region_held (S := fun Y => Below wr.heap.size wr Y) (by kernel_rfl) ?_
        change wpAnyH _ _ _ _ _ _ _ _ (World.drew _)
        have hb0 : Below wr.heap.size wr wr.drew := (Below.refl _ _).drew
        obtain ⟨u0, hy0⟩ : ∃ y_, y_ = wr.drew := ⟨_, rfl⟩
        rw [← hy0] at hb0 ⊢
        clear hy0
        refine takeW 0 16 (.slice (some ⟨b, off, none⟩) L.length cap) rfl rfl (by kernel_rfl) (by kernel_rfl) (by kernel_rfl) (fun _ _ _ h => h) (by kernel_rfl) (by (intro w hSw; go_simp)) (by assumption) ?_
        simp only [List.set_cons_zero, List.set_cons_succ]
        refine takeW 1 17 (.int .i64 (k : Int)) rfl rfl (by kernel_rfl) (by kernel_rfl) (by kernel_rfl) (fun _ _ _ h => h) (by kernel_rfl) (by (intro w hSw; go_simp)) (by assumption) ?_
        simp only [List.set_cons_zero, List.set_cons_succ]
        refine takeW 2 18 (.pointer (some ⟨b, off + k * 8, none⟩)) rfl rfl (by kernel_rfl) (by kernel_rfl) (by kernel_rfl) (fun _ _ _ h => h) (by kernel_rfl) (by (intro Y hSw; go_simp; try omega)) (by assumption) ?_
        simp only [List.set_cons_zero, List.set_cons_succ]
        refine takeW 3 19 (.agg #[.int .i64 h.k, .int .i64 h.q, .int .i64 h.r, .int .i64 h.c, .int .i64 h.b, .int .i64 h.p, .int .i64 h.h, .bool h.up]) rfl rfl (by kernel_rfl) (by kernel_rfl) (by kernel_rfl) (fun _ _ _ h => h) (by kernel_rfl) (by (intro Y hSw; obtain ⟨X0, X1, X2, X3, X4, X5, X6, X7⟩ := hc Y hSw; go_simp)) (by assumption) ?_
        simp only [List.set_cons_zero, List.set_cons_succ]
        refine takeW 4 20 (.slice (some ⟨b', off', none⟩) L.length cap') rfl rfl (by kernel_rfl) (by kernel_rfl) (by kernel_rfl) (fun _ _ _ h => h) (by kernel_rfl) (by (intro w hSw; go_simp)) (by assumption) ?_
        simp only [List.set_cons_zero, List.set_cons_succ]
        refine takeW 5 21 (.int .i64 (k : Int)) rfl rfl (by kernel_rfl) (by kernel_rfl) (by kernel_rfl) (fun _ _ _ h => h) (by kernel_rfl) (by (intro w hSw; go_simp)) (by assumption) ?_
        simp only [List.set_cons_zero, List.set_cons_succ]
        refine takeW 6 22 (.pointer (some ⟨b', off' + k * 8, none⟩)) rfl rfl (by kernel_rfl) (by kernel_rfl) (by kernel_rfl) (fun _ _ _ h => h) (by kernel_rfl) (by (intro Y hSw; go_simp; try omega)) (by assumption) ?_
        simp only [List.set_cons_zero, List.set_cons_succ]
        refine takeW 7 23 (.agg #[.int .i64 h'.k, .int .i64 h'.q, .int .i64 h'.r, .int .i64 h'.c, .int .i64 h'.b, .int .i64 h'.p, .int .i64 h'.h, .bool h'.up]) rfl rfl (by kernel_rfl) (by kernel_rfl) (by kernel_rfl) (fun _ _ _ h => h) (by kernel_rfl) (by (intro Y hSw; obtain ⟨X0, X1, X2, X3, X4, X5, X6, X7⟩ := hc' Y hSw; go_simp)) (by assumption) ?_
        simp only [List.set_cons_zero, List.set_cons_succ]
        refine takeW 8 24 (.bool true) rfl rfl (by kernel_rfl) (by kernel_rfl) (by kernel_rfl) (fun _ _ _ h => h) (by kernel_rfl) (by (intro w hSw; have hq := heq w; go_simp)) (by assumption) ?_
        simp only [List.set_cons_zero, List.set_cons_succ]
        refine wpAnyH_done (by kernel_rfl) ?_ _
        go_wp2
        go_ret
        refine ⟨YN.no (fun q => ?_), hb.trans (hb0.mono hb.size)⟩
        have := hQ.out.1 q
        exact he.out (hh.out.symm.trans ((congrArg (fun z => z.getD k Ik.nil) this).trans hh'.out))
    · obtain rfl : k = L.length := by omega
      go_wp2
      go_ret
      refine ⟨YN.yes (hQ.out.2 ?_), hb⟩
      refine List.ext_getElem hll.out.symm fun i h1 h2 => ?_
      have := hF.out i h1
      simpa [List.getD, h1, h2] using this
set_option maxHeartbeats 4000000 in
theorem ouEql (ad ad' : Option Addr) (cap cap' : Nat) (L L' : List Ou) (w : World) (hv : FView ouEnc w ad L) (hv' : FView ouEnc w ad' L') (hl : L.length ≤ 1048576) (hl' : L'.length ≤ 1048576) :
    Calls Tryz.prog 157 #[.slice ad L.length cap, .slice ad' L'.length cap'] w fun e w' => YN e (L = L') ∧ Below w.heap.size w w' := by
  suffices H : ∀ Q : Prop, Hid (Q ↔ L = L') → Calls Tryz.prog 157 #[.slice ad L.length cap, .slice ad' L'.length cap'] w fun e w' => YN e Q ∧ Below w.heap.size w w' from H _ Iff.rfl
  intro Q hQ
  have hB := hv.lt ouEnc_len (by omega)
  have hB' := hv'.lt ouEnc_len (by omega)
  by_cases hle : (L.length : Int) = (L'.length : Int)
  rotate_left
  · have d1 : ((L.length : Int) != (L'.length : Int)) = true := by simp; omega
    have d2 : decide ((L.length : Int) = (L'.length : Int)) = false := decide_eq_false hle
    replace hQ : Hid (¬ Q) := fun h => by
      have := congrArg List.length (hQ.out.1 h)
      omega
    replace hle : Hid _ := hle
    go_enter Tryz.func157, Tryz.ntmps157
    go_wp2
    go_ret
    exact ⟨YN.no hQ.out, Below.refl _ _⟩
  have hll : Hid (L'.length = L.length) := by unfold Hid; omega
  rw [hll.out]
  clear hle
  go_enter Tryz.func157, Tryz.ntmps157
  go_wp2
  go_loopw [13] (fun i wr => ∃ k : Nat, k ≤ L.length ∧ i = .int .i64 k ∧ Hid (∀ j, j < k → L.getD j Ou.nil = L'.getD j Ou.nil) ∧ Below w.heap.size w wr) (fun i _ => L.length - (intOf i).toNat)
  case atStart => exact ⟨0, Nat.zero_le _, rfl, fun j hj => absurd hj (by omega), Below.refl _ _⟩
  case round =>
    obtain ⟨k, hk, rfl, hF, hb⟩ := hrel
    by_cases hlt : k < L.length
    · obtain ⟨b, off, rfl, _⟩ := hv (by omega)
      obtain ⟨b', off', rfl, _⟩ := hv' (by have := hll.out; omega)
      obtain ⟨h, hh⟩ : ∃ h, L.getD k Ou.nil = h := ⟨_, rfl⟩
      obtain ⟨h', hh'⟩ : ∃ h, L'.getD k Ou.nil = h := ⟨_, rfl⟩
      have hc : ∀ Y, Below wr.heap.size wr Y → OuAtO Y b (off + k * 8) h := fun Y hY => by rw [← hh]; exact ouAtO_of ((hv.below (hb.trans (hY.mono hb.size)) hB).at_ ouEnc_len Ou.nil hlt)
      have hc' : ∀ Y, Below wr.heap.size wr Y → OuAtO Y b' (off' + k * 8) h' := fun Y hY => by rw [← hh']; exact ouAtO_of ((hv'.below (hb.trans (hY.mono hb.size)) hB').at_ ouEnc_len Ou.nil (by have := hll.out; omega))
      replace hh : Hid _ := hh
      replace hh' : Hid _ := hh'
      clear hv hv' hB hB'
      by_cases he : h = h'
      · have heq : ∀ w, (binOp .neq 114 (.agg #[.int .i64 h.k, .int .i64 h.pt, .int .i64 h.r, .int .i64 h.c, .int .i64 h.b, .int .i64 h.p, .int .i64 h.h, .bool h.on]) (.agg #[.int .i64 h'.k, .int .i64 h'.pt, .int .i64 h'.r, .int .i64 h'.c, .int .i64 h'.b, .int .i64 h'.p, .int .i64 h'.h, .bool h'.on])).run Tryz.prog w = .ok (.bool false) w := fun w => by subst he; exact neqOu_same h w
        replace he : Hid _ := he
        go_upto_region 6 with fail
        refine wp_region_held (S := fun Y => Below wr.heap.size wr Y) (by kernel_rfl) ?_
        change wpAnyH _ _ _ _ _ _ _ _ (World.drew _)
        have hb0 : Below wr.heap.size wr wr.drew := (Below.refl _ _).drew
        obtain ⟨u0, hy0⟩ : ∃ y_, y_ = wr.drew := ⟨_, rfl⟩
        rw [← hy0] at hb0 ⊢
        clear hy0
        refine takeW 0 16 (.slice (some ⟨b, off, none⟩) L.length cap) rfl rfl (by kernel_rfl) (by kernel_rfl) (by kernel_rfl) (fun _ _ _ h => h) (by kernel_rfl) (by (intro w hSw; go_simp)) (by assumption) ?_
        simp only [List.set_cons_zero, List.set_cons_succ]
        refine takeW 1 17 (.int .i64 (k : Int)) rfl rfl (by kernel_rfl) (by kernel_rfl) (by kernel_rfl) (fun _ _ _ h => h) (by kernel_rfl) (by (intro w hSw; go_simp)) (by assumption) ?_
        simp only [List.set_cons_zero, List.set_cons_succ]
        refine takeW 2 18 (.pointer (some ⟨b, off + k * 8, none⟩)) rfl rfl (by kernel_rfl) (by kernel_rfl) (by kernel_rfl) (fun _ _ _ h => h) (by kernel_rfl) (by (intro Y hSw; go_simp; try omega)) (by assumption) ?_
        simp only [List.set_cons_zero, List.set_cons_succ]
        refine takeW 3 19 (.agg #[.int .i64 h.k, .int .i64 h.pt, .int .i64 h.r, .int .i64 h.c, .int .i64 h.b, .int .i64 h.p, .int .i64 h.h, .bool h.on]) rfl rfl (by kernel_rfl) (by kernel_rfl) (by kernel_rfl) (fun _ _ _ h => h) (by kernel_rfl) (by (intro Y hSw; obtain ⟨X0, X1, X2, X3, X4, X5, X6, X7⟩ := hc Y hSw; go_simp)) (by assumption) ?_
        simp only [List.set_cons_zero, List.set_cons_succ]
        refine takeW 4 20 (.slice (some ⟨b', off', none⟩) L.length cap') rfl rfl (by kernel_rfl) (by kernel_rfl) (by kernel_rfl) (fun _ _ _ h => h) (by kernel_rfl) (by (intro w hSw; go_simp)) (by assumption) ?_
        simp only [List.set_cons_zero, List.set_cons_succ]
        refine takeW 5 21 (.int .i64 (k : Int)) rfl rfl (by kernel_rfl) (by kernel_rfl) (by kernel_rfl) (fun _ _ _ h => h) (by kernel_rfl) (by (intro w hSw; go_simp)) (by assumption) ?_
        simp only [List.set_cons_zero, List.set_cons_succ]
        refine takeW 6 22 (.pointer (some ⟨b', off' + k * 8, none⟩)) rfl rfl (by kernel_rfl) (by kernel_rfl) (by kernel_rfl) (fun _ _ _ h => h) (by kernel_rfl) (by (intro Y hSw; go_simp; try omega)) (by assumption) ?_
        simp only [List.set_cons_zero, List.set_cons_succ]
        refine takeW 7 23 (.agg #[.int .i64 h'.k, .int .i64 h'.pt, .int .i64 h'.r, .int .i64 h'.c, .int .i64 h'.b, .int .i64 h'.p, .int .i64 h'.h, .bool h'.on]) rfl rfl (by kernel_rfl) (by kernel_rfl) (by kernel_rfl) (fun _ _ _ h => h) (by kernel_rfl) (by (intro Y hSw; obtain ⟨X0, X1, X2, X3, X4, X5, X6, X7⟩ := hc' Y hSw; go_simp)) (by assumption) ?_
        simp only [List.set_cons_zero, List.set_cons_succ]
        refine takeW 8 24 (.bool false) rfl rfl (by kernel_rfl) (by kernel_rfl) (by kernel_rfl) (fun _ _ _ h => h) (by kernel_rfl) (by (intro w hSw; have hq := heq w; go_simp)) (by assumption) ?_
        simp only [List.set_cons_zero, List.set_cons_succ]
        refine wpAnyH_done (by kernel_rfl) ?_ _
        go_wp2
        go_roundw
        case rel =>
          refine ⟨k + 1, by omega, by go_num, fun j hj => ?_, hb.trans (hb0.mono hb.size)⟩
          by_cases ej : j = k
          · rw [ej, hh.out, hh'.out]; exact he.out
          · exact hF.out j (by omega)
        case measure => simp [intOf]; omega
      · have heq : ∀ w, (binOp .neq 114 (.agg #[.int .i64 h.k, .int .i64 h.pt, .int .i64 h.r, .int .i64 h.c, .int .i64 h.b, .int .i64 h.p, .int .i64 h.h, .bool h.on]) (.agg #[.int .i64 h'.k, .int .i64 h'.pt, .int .i64 h'.r, .int .i64 h'.c, .int .i64 h'.b, .int .i64 h'.p, .int .i64 h'.h, .bool h'.on])).run Tryz.prog w = .ok (.bool true) w := fun w => neqOu_else he w
        replace he : Hid _ := he
        go_upto_region 6 with fail
        refine wp_region_held (S := fun Y => Below wr.heap.size wr Y) (by kernel_rfl) ?_
        change wpAnyH _ _ _ _ _ _ _ _ (World.drew _)
        have hb0 : Below wr.heap.size wr wr.drew := (Below.refl _ _).drew
        obtain ⟨u0, hy0⟩ : ∃ y_, y_ = wr.drew := ⟨_, rfl⟩
        rw [← hy0] at hb0 ⊢
        clear hy0
        refine takeW 0 16 (.slice (some ⟨b, off, none⟩) L.length cap) rfl rfl (by kernel_rfl) (by kernel_rfl) (by kernel_rfl) (fun _ _ _ h => h) (by kernel_rfl) (by (intro w hSw; go_simp)) (by assumption) ?_
        simp only [List.set_cons_zero, List.set_cons_succ]
        refine takeW 1 17 (.int .i64 (k : Int)) rfl rfl (by kernel_rfl) (by kernel_rfl) (by kernel_rfl) (fun _ _ _ h => h) (by kernel_rfl) (by (intro w hSw; go_simp)) (by assumption) ?_
        simp only [List.set_cons_zero, List.set_cons_succ]
        refine takeW 2 18 (.pointer (some ⟨b, off + k * 8, none⟩)) rfl rfl (by kernel_rfl) (by kernel_rfl) (by kernel_rfl) (fun _ _ _ h => h) (by kernel_rfl) (by (intro Y hSw; go_simp; try omega)) (by assumption) ?_
        simp only [List.set_cons_zero, List.set_cons_succ]
        refine takeW 3 19 (.agg #[.int .i64 h.k, .int .i64 h.pt, .int .i64 h.r, .int .i64 h.c, .int .i64 h.b, .int .i64 h.p, .int .i64 h.h, .bool h.on]) rfl rfl (by kernel_rfl) (by kernel_rfl) (by kernel_rfl) (fun _ _ _ h => h) (by kernel_rfl) (by (intro Y hSw; obtain ⟨X0, X1, X2, X3, X4, X5, X6, X7⟩ := hc Y hSw; go_simp)) (by assumption) ?_
        simp only [List.set_cons_zero, List.set_cons_succ]
        refine takeW 4 20 (.slice (some ⟨b', off', none⟩) L.length cap') rfl rfl (by kernel_rfl) (by kernel_rfl) (by kernel_rfl) (fun _ _ _ h => h) (by kernel_rfl) (by (intro w hSw; go_simp)) (by assumption) ?_
        simp only [List.set_cons_zero, List.set_cons_succ]
        refine takeW 5 21 (.int .i64 (k : Int)) rfl rfl (by kernel_rfl) (by kernel_rfl) (by kernel_rfl) (fun _ _ _ h => h) (by kernel_rfl) (by (intro w hSw; go_simp)) (by assumption) ?_
        simp only [List.set_cons_zero, List.set_cons_succ]
        refine takeW 6 22 (.pointer (some ⟨b', off' + k * 8, none⟩)) rfl rfl (by kernel_rfl) (by kernel_rfl) (by kernel_rfl) (fun _ _ _ h => h) (by kernel_rfl) (by (intro Y hSw; go_simp; try omega)) (by assumption) ?_
        simp only [List.set_cons_zero, List.set_cons_succ]
        refine takeW 7 23 (.agg #[.int .i64 h'.k, .int .i64 h'.pt, .int .i64 h'.r, .int .i64 h'.c, .int .i64 h'.b, .int .i64 h'.p, .int .i64 h'.h, .bool h'.on]) rfl rfl (by kernel_rfl) (by kernel_rfl) (by kernel_rfl) (fun _ _ _ h => h) (by kernel_rfl) (by (intro Y hSw; obtain ⟨X0, X1, X2, X3, X4, X5, X6, X7⟩ := hc' Y hSw; go_simp)) (by assumption) ?_
        simp only [List.set_cons_zero, List.set_cons_succ]
        refine takeW 8 24 (.bool true) rfl rfl (by kernel_rfl) (by kernel_rfl) (by kernel_rfl) (fun _ _ _ h => h) (by kernel_rfl) (by (intro w hSw; have hq := heq w; go_simp)) (by assumption) ?_
        simp only [List.set_cons_zero, List.set_cons_succ]
        refine wpAnyH_done (by kernel_rfl) ?_ _
        go_wp2
        go_ret
        refine ⟨YN.no (fun q => ?_), hb.trans (hb0.mono hb.size)⟩
        have := hQ.out.1 q
        exact he.out (hh.out.symm.trans ((congrArg (fun z => z.getD k Ou.nil) this).trans hh'.out))
    · obtain rfl : k = L.length := by omega
      go_wp2
      go_ret
      refine ⟨YN.yes (hQ.out.2 ?_), hb⟩
      refine List.ext_getElem hll.out.symm fun i h1 h2 => ?_
      have := hF.out i h1
      simpa [List.getD, h1, h2] using this
theorem neqBo_same (x : Bool) (w : World) : (binOp .neq 4 (.bool x) (.bool x)).run Tryz.prog w = .ok (.bool false) w := by
  simp [go_sem]
theorem neqBo_else {x y : Bool} (h : x ≠ y) (w : World) : (binOp .neq 4 (.bool x) (.bool y)).run Tryz.prog w = .ok (.bool true) w := by
  simp [go_sem, h]
set_option maxHeartbeats 4000000 in
theorem boEql (ad ad' : Option Addr) (cap cap' : Nat) (L L' : List Bool) (w : World) (hv : FView boEnc w ad L) (hv' : FView boEnc w ad' L') (hl : L.length ≤ 1048576) (hl' : L'.length ≤ 1048576) :
    Calls Tryz.prog 154 #[.slice ad L.length cap, .slice ad' L'.length cap'] w fun e w' => YN e (L = L') ∧ Below w.heap.size w w' := by
  suffices H : ∀ Q : Prop, Hid (Q ↔ L = L') → Calls Tryz.prog 154 #[.slice ad L.length cap, .slice ad' L'.length cap'] w fun e w' => YN e Q ∧ Below w.heap.size w w' from H _ Iff.rfl
  intro Q hQ
  have hB := hv.lt boEnc_len (by omega)
  have hB' := hv'.lt boEnc_len (by omega)
  by_cases hle : (L.length : Int) = (L'.length : Int)
  rotate_left
  · have d1 : ((L.length : Int) != (L'.length : Int)) = true := by simp; omega
    have d2 : decide ((L.length : Int) = (L'.length : Int)) = false := decide_eq_false hle
    replace hQ : Hid (¬ Q) := fun h => by
      have := congrArg List.length (hQ.out.1 h)
      omega
    replace hle : Hid _ := hle
    go_enter Tryz.func154, Tryz.ntmps154
    go_wp2
    go_ret
    exact ⟨YN.no hQ.out, Below.refl _ _⟩
  have hll : Hid (L'.length = L.length) := by unfold Hid; omega
  rw [hll.out]
  clear hle
  go_enter Tryz.func154, Tryz.ntmps154
  go_wp2
  go_loopw [13] (fun i wr => ∃ k : Nat, k ≤ L.length ∧ i = .int .i64 k ∧ Hid (∀ j, j < k → L.getD j false = L'.getD j false) ∧ Below w.heap.size w wr) (fun i _ => L.length - (intOf i).toNat)
  case atStart => exact ⟨0, Nat.zero_le _, rfl, fun j hj => absurd hj (by omega), Below.refl _ _⟩
  case round =>
    obtain ⟨k, hk, rfl, hF, hb⟩ := hrel
    by_cases hlt : k < L.length
    · obtain ⟨b, off, rfl, _⟩ := hv (by omega)
      obtain ⟨b', off', rfl, _⟩ := hv' (by have := hll.out; omega)
      obtain ⟨h, hh⟩ : ∃ h, L.getD k false = h := ⟨_, rfl⟩
      obtain ⟨h', hh'⟩ : ∃ h, L'.getD k false = h := ⟨_, rfl⟩
      have hc : ∀ Y, Below wr.heap.size wr Y → Y.cell? ⟨b, off + k, none⟩ = some (.bool h) := fun Y hY => by have h1 := (hv.below (hb.trans (hY.mono hb.size)) hB).at_ boEnc_len false hlt 0 (.bool (L.getD k false)) rfl; rw [hh] at h1; simpa using h1
      have hc' : ∀ Y, Below wr.heap.size wr Y → Y.cell? ⟨b', off' + k, none⟩ = some (.bool h') := fun Y hY => by have h1 := (hv'.below (hb.trans (hY.mono hb.size)) hB').at_ boEnc_len false (by have := hll.out; omega) 0 (.bool (L'.getD k false)) rfl; rw [hh'] at h1; simpa using h1
      replace hh : Hid _ := hh
      replace hh' : Hid _ := hh'
      clear hv hv' hB hB'
      by_cases he : h = h'
      · have heq : ∀ w, (binOp .neq 4 (.bool h) (.bool h')).run Tryz.prog w = .ok (.bool false) w := fun w => by subst he; exact neqBo_same h w
        replace he : Hid _ := he
        go_upto_region 6 with fail
        refine wp_region_held (S := fun Y => Below wr.heap.size wr Y) (by kernel_rfl) ?_
        change wpAnyH _ _ _ _ _ _ _ _ (World.drew _)
        have hb0 : Below wr.heap.size wr wr.drew := (Below.refl _ _).drew
        obtain ⟨u0, hy0⟩ : ∃ y_, y_ = wr.drew := ⟨_, rfl⟩
        rw [← hy0] at hb0 ⊢
        clear hy0
        refine takeW 0 16 (.slice (some ⟨b, off, none⟩) L.length cap) rfl rfl (by kernel_rfl) (by kernel_rfl) (by kernel_rfl) (fun _ _ _ h => h) (by kernel_rfl) (by (intro w hSw; go_simp)) (by assumption) ?_
        simp only [List.set_cons_zero, List.set_cons_succ]
        refine takeW 1 17 (.int .i64 (k : Int)) rfl rfl (by kernel_rfl) (by kernel_rfl) (by kernel_rfl) (fun _ _ _ h => h) (by kernel_rfl) (by (intro w hSw; go_simp)) (by assumption) ?_
        simp only [List.set_cons_zero, List.set_cons_succ]
        refine takeW 2 18 (.pointer (some ⟨b, off + k, none⟩)) rfl rfl (by kernel_rfl) (by kernel_rfl) (by kernel_rfl) (fun _ _ _ h => h) (by kernel_rfl) (by (intro Y hSw; go_simp; try omega)) (by assumption) ?_
        simp only [List.set_cons_zero, List.set_cons_succ]
        refine takeW 3 19 (.bool h) rfl rfl (by kernel_rfl) (by kernel_rfl) (by kernel_rfl) (fun _ _ _ h => h) (by kernel_rfl) (by (intro Y hSw; have X0 := hc Y hSw; go_simp)) (by assumption) ?_
        simp only [List.set_cons_zero, List.set_cons_succ]
        refine takeW 4 20 (.slice (some ⟨b', off', none⟩) L.length cap') rfl rfl (by kernel_rfl) (by kernel_rfl) (by kernel_rfl) (fun _ _ _ h => h) (by kernel_rfl) (by (intro w hSw; go_simp)) (by assumption) ?_
        simp only [List.set_cons_zero, List.set_cons_succ]
        refine takeW 5 21 (.int .i64 (k : Int)) rfl rfl (by kernel_rfl) (by kernel_rfl) (by kernel_rfl) (fun _ _ _ h => h) (by kernel_rfl) (by (intro w hSw; go_simp)) (by assumption) ?_
        simp only [List.set_cons_zero, List.set_cons_succ]
        refine takeW 6 22 (.pointer (some ⟨b', off' + k, none⟩)) rfl rfl (by kernel_rfl) (by kernel_rfl) (by kernel_rfl) (fun _ _ _ h => h) (by kernel_rfl) (by (intro Y hSw; go_simp; try omega)) (by assumption) ?_
        simp only [List.set_cons_zero, List.set_cons_succ]
        refine takeW 7 23 (.bool h') rfl rfl (by kernel_rfl) (by kernel_rfl) (by kernel_rfl) (fun _ _ _ h => h) (by kernel_rfl) (by (intro Y hSw; have X0 := hc' Y hSw; go_simp)) (by assumption) ?_
        simp only [List.set_cons_zero, List.set_cons_succ]
        refine takeW 8 24 (.bool false) rfl rfl (by kernel_rfl) (by kernel_rfl) (by kernel_rfl) (fun _ _ _ h => h) (by kernel_rfl) (by (intro w hSw; have hq := heq w; go_simp)) (by assumption) ?_
        simp only [List.set_cons_zero, List.set_cons_succ]
        refine wpAnyH_done (by kernel_rfl) ?_ _
        go_wp2
        go_roundw
        case rel =>
          refine ⟨k + 1, by omega, by go_num, fun j hj => ?_, hb.trans (hb0.mono hb.size)⟩
          by_cases ej : j = k
          · rw [ej, hh.out, hh'.out]; exact he.out
          · exact hF.out j (by omega)
        case measure => simp [intOf]; omega
      · have heq : ∀ w, (binOp .neq 4 (.bool h) (.bool h')).run Tryz.prog w = .ok (.bool true) w := fun w => neqBo_else he w
        replace he : Hid _ := he
        go_upto_region 6 with fail
        refine wp_region_held (S := fun Y => Below wr.heap.size wr Y) (by kernel_rfl) ?_
        change wpAnyH _ _ _ _ _ _ _ _ (World.drew _)
        have hb0 : Below wr.heap.size wr wr.drew := (Below.refl _ _).drew
        obtain ⟨u0, hy0⟩ : ∃ y_, y_ = wr.drew := ⟨_, rfl⟩
        rw [← hy0] at hb0 ⊢
        clear hy0
        refine takeW 0 16 (.slice (some ⟨b, off, none⟩) L.length cap) rfl rfl (by kernel_rfl) (by kernel_rfl) (by kernel_rfl) (fun _ _ _ h => h) (by kernel_rfl) (by (intro w hSw; go_simp)) (by assumption) ?_
        simp only [List.set_cons_zero, List.set_cons_succ]
        refine takeW 1 17 (.int .i64 (k : Int)) rfl rfl (by kernel_rfl) (by kernel_rfl) (by kernel_rfl) (fun _ _ _ h => h) (by kernel_rfl) (by (intro w hSw; go_simp)) (by assumption) ?_
        simp only [List.set_cons_zero, List.set_cons_succ]
        refine takeW 2 18 (.pointer (some ⟨b, off + k, none⟩)) rfl rfl (by kernel_rfl) (by kernel_rfl) (by kernel_rfl) (fun _ _ _ h => h) (by kernel_rfl) (by (intro Y hSw; go_simp; try omega)) (by assumption) ?_
        simp only [List.set_cons_zero, List.set_cons_succ]
        refine takeW 3 19 (.bool h) rfl rfl (by kernel_rfl) (by kernel_rfl) (by kernel_rfl) (fun _ _ _ h => h) (by kernel_rfl) (by (intro Y hSw; have X0 := hc Y hSw; go_simp)) (by assumption) ?_
        simp only [List.set_cons_zero, List.set_cons_succ]
        refine takeW 4 20 (.slice (some ⟨b', off', none⟩) L.length cap') rfl rfl (by kernel_rfl) (by kernel_rfl) (by kernel_rfl) (fun _ _ _ h => h) (by kernel_rfl) (by (intro w hSw; go_simp)) (by assumption) ?_
        simp only [List.set_cons_zero, List.set_cons_succ]
        refine takeW 5 21 (.int .i64 (k : Int)) rfl rfl (by kernel_rfl) (by kernel_rfl) (by kernel_rfl) (fun _ _ _ h => h) (by kernel_rfl) (by (intro w hSw; go_simp)) (by assumption) ?_
        simp only [List.set_cons_zero, List.set_cons_succ]
        refine takeW 6 22 (.pointer (some ⟨b', off' + k, none⟩)) rfl rfl (by kernel_rfl) (by kernel_rfl) (by kernel_rfl) (fun _ _ _ h => h) (by kernel_rfl) (by (intro Y hSw; go_simp; try omega)) (by assumption) ?_
        simp only [List.set_cons_zero, List.set_cons_succ]
        refine takeW 7 23 (.bool h') rfl rfl (by kernel_rfl) (by kernel_rfl) (by kernel_rfl) (fun _ _ _ h => h) (by kernel_rfl) (by (intro Y hSw; have X0 := hc' Y hSw; go_simp)) (by assumption) ?_
        simp only [List.set_cons_zero, List.set_cons_succ]
        refine takeW 8 24 (.bool true) rfl rfl (by kernel_rfl) (by kernel_rfl) (by kernel_rfl) (fun _ _ _ h => h) (by kernel_rfl) (by (intro w hSw; have hq := heq w; go_simp)) (by assumption) ?_
        simp only [List.set_cons_zero, List.set_cons_succ]
        refine wpAnyH_done (by kernel_rfl) ?_ _
        go_wp2
        go_ret
        refine ⟨YN.no (fun q => ?_), hb.trans (hb0.mono hb.size)⟩
        have := hQ.out.1 q
        exact he.out (hh.out.symm.trans ((congrArg (fun z => z.getD k false) this).trans hh'.out))
    · obtain rfl : k = L.length := by omega
      go_wp2
      go_ret
      refine ⟨YN.yes (hQ.out.2 ?_), hb⟩
      refine List.ext_getElem hll.out.symm fun i h1 h2 => ?_
      have := hF.out i h1
      simpa [List.getD, h1, h2] using this

end Go.Proofs.YtnpiljegdiconaaGreat
namespace Go.Proofs.YtnpiljegdiconaaGreat
open Go.ChangeShapes Go.WideShapes Go.ChangeAt Go.RowKit
open Go.ChangeMaps (open_string shut_string)
set_option linter.unusedVariables false
set_option maxRecDepth 100000

set_option maxHeartbeats 4000000 in
theorem newBS (id n : Int) (w : World) :
    Calls Tryz.prog 30 #[.int .i64 id, .int .i64 n] w fun e w' => ∃ ad' cap', e = .returned (.tuple #[.agg #[.int .i64 (newI id n), .slice ad' (newL id n).length cap'], .bool (nOk id n)]) ∧ FOwn ptEnc 11 109 w.heap.size w' (.slice ad' (newL id n).length cap') (newL id n) ∧ Below w.heap.size w w' := by
  obtain ⟨i0, hi, hz0, hz1, hz2⟩ := info_parts ptInfo
  obtain ⟨y, hy⟩ : ∃ y, y = (w.alloc (Obj.cells #[.int .i64 0, .slice none 0 0] 56)).alloc (Obj.cells #[.int .i64 id, .slice none 0 0] 56) := ⟨_, rfl⟩
  have B0 : Below w.heap.size w y := by rw [hy]; exact ((Below.refl _ _).alloc (Nat.le_refl _) _).alloc (by simp) _
  have R0 : BBox y w.heap.size 0 (.slice none 0 0) := by rw [hy]; refine ⟨?_, fun i => ?_⟩; constructor <;> simp [go_sem]; simp [go_sem]
  have N0 : BBox y (w.heap.size + 1) id (.slice none 0 0) := by rw [hy]; refine ⟨?_, fun i => ?_⟩; constructor <;> simp [go_sem]; simp [go_sem]
  have S0 := N0.lt
  obtain ⟨IV, hI⟩ : ∃ v, v = newI id n := ⟨_, rfl⟩
  obtain ⟨LV, hM⟩ : ∃ v, v = newL id n := ⟨_, rfl⟩
  obtain ⟨NV, hN⟩ : ∃ v, v = nOk id n := ⟨_, rfl⟩
  rw [← hI, ← hM, ← hN]
  obtain ⟨m, hm⟩ : ∃ m : Nat, m = (if n < 5 then n else 5).toNat := ⟨_, rfl⟩
  have hm5 : m ≤ 5 := by rw [hm]; split <;> omega
  have hmn : nOk id n = nOk id (m : Int) := by
    unfold nOk
    congr 1
    apply decide_eq_decide.2
    rw [hm]
    split <;> omega
  have hmt : nOk id n = true → n.toNat = m := by
    intro h
    unfold nOk at h
    simp only [Bool.and_eq_true, decide_eq_true_eq] at h
    rw [hm, if_pos (by omega)]
  obtain ⟨t, ht⟩ : ∃ t : Int, t = (if n < 5 then n else 5) := ⟨_, rfl⟩
  have htm : t ≤ (m : Int) ∧ (0 ≤ t → t = (m : Int)) ∧ (t < 0 → m = 0) := by rw [ht, hm]; split <;> omega
  replace ht : Hid _ := ht
  replace hI : Hid _ := hI
  replace hM : Hid _ := hM
  replace hN : Hid _ := hN
  replace hmn : Hid _ := hmn
  replace hmt : Hid _ := hmt
  replace htm : Hid _ := htm
  clear hm
  go_enter Tryz.func30, Tryz.ntmps30
  go_wp2
  rw [← hy]
  clear hy
  go_loopw [7] (fun i wr => ∃ k : Nat, k ≤ m ∧ i = .int .i64 (k : Int) ∧ (∃ adk capk, FOwn ptEnc 11 109 y.heap.size wr (.slice adk k capk) (List.replicate k Pt.nil) ∧ BBox wr (w.heap.size + 1) id (.slice adk k capk)) ∧ BBox wr w.heap.size 0 (.slice none 0 0) ∧ Below w.heap.size w wr ∧ y.heap.size ≤ wr.heap.size) (fun i _ => m - (intOf i).toNat)
  case atStart => exact ⟨0, Nat.zero_le _, rfl, ⟨none, 0, FOwn.nil, N0⟩, R0, B0, Nat.le_refl _⟩
  case round =>
    obtain ⟨k, hk, rfl, ⟨adk, capk, O, N1⟩, R1, B1, S1⟩ := hrel
    obtain ⟨⟨n0, n1⟩, nf⟩ := N1
    have N1 : BBox wr (w.heap.size + 1) id (.slice adk k capk) := ⟨⟨n0, n1⟩, nf⟩
    by_cases hlt : (k : Int) < t
    · have dl : decide ((k : Int) < t) = true := decide_eq_true hlt
      have hkm : k < m := by have := htm.out; omega
      replace hlt : Hid _ := hlt
      go_wp2_with fail
      go_at_call 80
      refine (minS n 5 wr).mono ?_
      rintro e w2 ⟨rfl, rfl⟩
      rw [← ht.out]
      have V1 := FView.one w2 109 Pt.nil
      have B2 := B1.alloc B1.size (Obj.cells #[.bool false, .bool false, .int .i64 0, .int .i64 0, .int .i64 0, .int .i64 0, .int .i64 0, .int .i64 0, .int .i64 0, .int .i64 0, .bool false] 109)
      have O2 : FOwn ptEnc 11 109 y.heap.size (w2.alloc (Obj.cells #[.bool false, .bool false, .int .i64 0, .int .i64 0, .int .i64 0, .int .i64 0, .int .i64 0, .int .i64 0, .int .i64 0, .int .i64 0, .bool false] 109)) (.slice adk k capk) (List.replicate k Pt.nil) := O.later (below_new _)
      have hcn := O.capn
      go_wp2_with (first | (at_builtin; refine fappL ptEnc_len ptEnc_ones rfl _ _ 54 rfl y.heap.size 109 i0 (.agg #[.bool false, .bool false, .int .i64 0, .int .i64 0, .int .i64 0, .int .i64 0, .int .i64 0, .int .i64 0, .int .i64 0, .int .i64 0, .bool false]) 80 Tryz.underlying54 hi hz0 hz1 hz2 rfl (by decide) (by decide) (.slice adk k capk) (List.replicate k Pt.nil) rfl O2 (some ⟨w2.heap.size, 0, none⟩) 1 [Pt.nil] rfl (fun e => by cases e) V1 ?z0 ?z1 ?_) | go_in)
      case z0 => simp; omega
      case z1 => simp; omega
      intro vZ wZ hownZ hgrowZ _
      have hownZ : FOwn ptEnc 11 109 y.heap.size wZ vZ (List.replicate (k + 1) Pt.nil) := by rw [List.replicate_succ']; exact hownZ
      have ho : ∀ g, (Value.slice adk k capk).ownBlock = some g → y.heap.size ≤ g := fun g e => (O2.lt g e).1
      have BZ : Below w.heap.size w wZ := B2.grown hgrowZ B2.size (fun g e => by have := ho g e; omega)
      have NZ : BBox wZ (w.heap.size + 1) id (.slice adk k capk) := (N1.below (below_new _) N1.lt).keep (hgrowZ.block _ (by have := N1.lt; simp; omega) (fun e => by have := ho _ e.symm; omega))
      have RZ : BBox wZ w.heap.size 0 (.slice none 0 0) := (R1.below (below_new _) R1.lt).keep (hgrowZ.block _ (by have := R1.lt; simp; omega) (fun e => by have := ho _ e.symm; omega))
      have SZ : y.heap.size ≤ wZ.heap.size := by have := hgrowZ.size; simp at this; omega
      obtain ⟨aZ, cZ, hvz⟩ := hownZ.open_
      rw [List.length_replicate] at hvz
      subst hvz
      clear hgrowZ V1 B2 O2 n0 n1 nf N1 R1 O ho hcn
      obtain ⟨⟨q0, q1⟩, qf⟩ := NZ
      have NZ : BBox wZ (w.heap.size + 1) id (.slice adk k capk) := ⟨⟨q0, q1⟩, qf⟩
      have NS : BBox (wZ.setCell ⟨w.heap.size + 1, 1, none⟩ (.slice aZ (k + 1) cZ)) (w.heap.size + 1) id (.slice aZ (k + 1) cZ) := ⟨⟨(pset_else (by decide)).trans q0, pset_same q1⟩, fun i => by rw [World.frozen?_setCell]; exact qf i⟩
      have RS : BBox (wZ.setCell ⟨w.heap.size + 1, 1, none⟩ (.slice aZ (k + 1) cZ)) w.heap.size 0 (.slice none 0 0) := RZ.keep (Below.heap_setCell _ _ _ _ (by show w.heap.size ≠ w.heap.size + 1; omega))
      have OS : FOwn ptEnc 11 109 y.heap.size (wZ.setCell ⟨w.heap.size + 1, 1, none⟩ (.slice aZ (k + 1) cZ)) (.slice aZ (k + 1) cZ) (List.replicate (k + 1) Pt.nil) := hownZ.keep fun g' e => Below.heap_setCell _ _ _ _ (by have := (hownZ.lt g' e).1; show g' ≠ w.heap.size + 1; omega)
      have BS := BZ.setCell (p := ⟨w.heap.size + 1, 1, none⟩) (by show _ ≤ w.heap.size + 1; omega) (.slice aZ (k + 1) cZ)
      clear NZ RZ hownZ BZ
      go_wp2
      go_roundw
      case rel => exact ⟨k + 1, by omega, by go_num, ⟨aZ, cZ, OS, NS⟩, RS, BS, by simpa using SZ⟩
      case measure => simp [intOf]; omega
    · have dl : decide ((k : Int) < t) = false := decide_eq_false hlt
      have hkm : Hid (k = m) := by unfold Hid; have := htm.out; omega
      replace hlt : Hid _ := hlt
      go_wp2_with fail
      go_at_call 80
      refine (minS n 5 wr).mono ?_
      rintro e w2 ⟨rfl, rfl⟩
      rw [← ht.out]
      have hc := bOkS id adk capk (List.replicate k Pt.nil) w2 (by have := O.view.2; exact this) (by rw [List.length_replicate]; omega)
      rw [List.length_replicate, bOk_new, hkm.out, ← hmn.out, ← hkm.out] at hc
      go_wp2_with fail
      go_at_call 81
      refine hc.mono ?_
      rintro e w3 ⟨rfl, k3⟩
      have R3 := R1.below k3 R1.lt
      have N3 := N1.below k3 N1.lt
      have O3 := O.later k3
      have B3 := B1.trans (k3.mono B1.size)
      clear hc k3 n0 n1 nf R1 N1 O
      cases he : nOk id n with
      | false =>
        replace hI : Hid (IV = 0) := by unfold Hid; rw [hI.out]; unfold newI; rw [he]; rfl
        replace hM : Hid (LV = []) := by unfold Hid; rw [hM.out]; unfold newL; rw [he]; rfl
        replace hN : Hid (NV = false) := by unfold Hid; rw [hN.out, he]
        clear he
        have RP := R3.put 0 (.slice none 0 0)
        obtain ⟨⟨r0, r1⟩, rf⟩ := R3
        have BZ := (B3.setCell (p := ⟨w.heap.size, 0, none⟩) (Nat.le_refl w.heap.size) (.int .i64 0)).setCell (p := ⟨w.heap.size, 1, none⟩) (Nat.le_refl w.heap.size) (.slice none 0 0)
        obtain ⟨⟨p0, p1⟩, _⟩ := RP
        go_wp2
        refine bodyPost_ret (v := .tuple #[.agg #[.int .i64 0, .slice none 0 0], .bool false]) (by simp [results, Tryz.results30, go_sem, *]) rfl ⟨none, 0, by rw [hI.out, hM.out, hN.out]; rfl, by rw [hM.out]; exact FOwn.nil, BZ⟩
      | true =>
        have hRl : Hid (LV.length = k) := by unfold Hid; rw [hM.out]; unfold newL; rw [he, if_pos rfl, List.length_replicate, hmt.out he, hkm.out]
        replace hI : Hid (IV = id) := by unfold Hid; rw [hI.out]; unfold newI; rw [he]; rfl
        replace hM : Hid (LV = List.replicate k Pt.nil) := by unfold Hid; rw [hM.out]; unfold newL; rw [he, if_pos rfl, hmt.out he, hkm.out]
        replace hN : Hid (NV = true) := by unfold Hid; rw [hN.out, he]
        clear he hkm
        have RP := R3.put id (.slice adk k capk)
        obtain ⟨⟨r0, r1⟩, rf⟩ := R3
        obtain ⟨⟨n0, n1⟩, nf⟩ := N3
        have BZ := (B3.setCell (p := ⟨w.heap.size, 0, none⟩) (Nat.le_refl w.heap.size) (.int .i64 id)).setCell (p := ⟨w.heap.size, 1, none⟩) (Nat.le_refl w.heap.size) (.slice adk k capk)
        have OZ : FOwn ptEnc 11 109 w.heap.size ((w3.setCell ⟨w.heap.size, 0, none⟩ (.int .i64 id)).setCell ⟨w.heap.size, 1, none⟩ (.slice adk k capk)) (.slice adk k capk) (List.replicate k Pt.nil) := (O3.base (by omega)).keep fun g' e => by
          have := (O3.lt g' e).1
          rw [Below.heap_setCell _ _ _ _ (by show g' ≠ w.heap.size; omega), Below.heap_setCell _ _ _ _ (by show g' ≠ w.heap.size; omega)]
        obtain ⟨⟨p0, p1⟩, _⟩ := RP
        go_wp2
        refine bodyPost_ret (v := .tuple #[.agg #[.int .i64 id, .slice adk k capk], .bool true]) (by simp [results, Tryz.results30, go_sem, *]) rfl ⟨adk, capk, by rw [hI.out, hN.out, hRl.out], by rw [hRl.out, hM.out]; exact OZ, BZ⟩

end Go.Proofs.YtnpiljegdiconaaGreat
namespace Go.Proofs.YtnpiljegdiconaaGreat
open Go.ChangeShapes Go.WideShapes Go.ChangeAt Go.RowKit
open Go.ChangeMaps (open_string shut_string)
set_option linter.unusedVariables false
set_option maxRecDepth 100000

theorem p_two_len (x : BxD) : x.p.two.length = x.two.length := by unfold BxD.p; simp
set_option maxHeartbeats 4000000 in
theorem mindsXS (x : BxD) (s : Int) (w : World) (hV : BxV w x) :
    Calls Tryz.prog 96 #[.agg #[.int .i64 x.id, .int .i64 x.po, .int .i64 x.rg.ep, .int .i64 x.rg.ow, .int .i64 x.rg.pa, .slice x.aT x.two.length x.cT, .slice x.aN x.net.length x.cN, .slice x.aG x.ga.length x.cG, .slice x.aL x.ln.length x.cL, .slice x.aS x.sd.length x.cS], .int .i64 s] w fun e w' => e = .returned (.bool (mindsX x.p s)) ∧ Below w.heap.size w w' := by
  obtain ⟨R, hR⟩ : ∃ R, R = mindsX x.p s := ⟨_, rfl⟩
  rw [← hR]
  replace hR : Hid _ := hR
  obtain ⟨y, hy⟩ : ∃ y, y = w.alloc (Obj.cells #[.int .i64 x.id, .int .i64 x.po, .int .i64 x.rg.ep, .int .i64 x.rg.ow, .int .i64 x.rg.pa, .slice x.aT x.two.length x.cT, .slice x.aN x.net.length x.cN, .slice x.aG x.ga.length x.cG, .slice x.aL x.ln.length x.cL, .slice x.aS x.sd.length x.cS] 48) := ⟨_, rfl⟩
  have B0 : Below w.heap.size w y := by rw [hy]; exact below_new _
  have A : BxAt y w.heap.size x := by rw [hy]; exact BxAt.new w _ x
  have V := hV.later B0
  go_enter Tryz.func96, Tryz.ntmps96
  go_upto_region 1 with fail
  rw [← hy]
  clear hy hV
  refine wp_region_held (S := fun Y => Below y.heap.size y Y) (by kernel_rfl) ?_
  change wpAnyH _ _ _ _ _ _ _ _ (World.drew _)
  have hb0 : Below y.heap.size y y.drew := (Below.refl _ _).drew
  obtain ⟨u0, hy0⟩ : ∃ y_, y_ = y.drew := ⟨_, rfl⟩
  rw [← hy0] at hb0 ⊢
  clear hy0
  refine takeW 0 5 (.int .i64 s) rfl rfl (by kernel_rfl) (by kernel_rfl) (by kernel_rfl) (fun _ _ _ h => h) (by kernel_rfl) (by (intro w hSw; go_simp)) (by assumption) ?_
  simp only [List.set_cons_zero, List.set_cons_succ]
  refine takeW 1 6 (.pointer (some ⟨w.heap.size, 5, none⟩)) rfl rfl (by kernel_rfl) (by kernel_rfl) (by kernel_rfl) (fun _ _ _ h => h) (by kernel_rfl) (by (intro w hSw; go_simp)) (by assumption) ?_
  simp only [List.set_cons_zero, List.set_cons_succ]
  refine takeW 2 7 (.slice x.aT x.two.length x.cT) rfl rfl (by kernel_rfl) (by kernel_rfl) (by kernel_rfl) (fun _ _ _ h => h) (by kernel_rfl) (by (intro Y hSw; obtain ⟨X0, X1, X2, X3, X4, X5, X6, X7, X8, X9⟩ := A.below hSw A.lt; go_simp)) (by assumption) ?_
  simp only [List.set_cons_zero, List.set_cons_succ]
  refine takeW 3 8 (.int .i64 (x.two.length : Int)) rfl rfl (by kernel_rfl) (by kernel_rfl) (by kernel_rfl) (fun _ _ _ h => h) (by kernel_rfl) (by (intro w hSw; go_simp)) (by assumption) ?_
  simp only [List.set_cons_zero, List.set_cons_succ]
  have bt := V.bt
  have hwr : IntKind.i64.wrap ((x.two.length : Int) - 1) = (x.two.length : Int) - 1 := by rw [IntKind.wrap_i64]; omega
  refine takeW 4 9 (.int .i64 ((x.two.length : Int) - 1)) rfl rfl (by kernel_rfl) (by kernel_rfl) (by kernel_rfl) (fun _ _ _ h => h) (by kernel_rfl) (by (intro w hSw; go_simp)) (by assumption) ?_
  simp only [List.set_cons_zero, List.set_cons_succ]
  refine wpAnyH_all (rs := [5]) (by kernel_rfl) (by simp) ?_
  intro i hi; obtain rfl : i = 5 := by simpa using hi
  refine wpOp_step rfl (fun Kz hKz => ?_)
  rw [if_pos (by kernel_rfl)]
  go_simp
  go_at_call 65
  refine (inB s 0 ((x.two.length : Int) - 1) u0).mono ?_
  rintro e u1 ⟨rfl, hw_⟩
  have hb1 : Below y.heap.size y u1 := by rw [hw_]; exact hb0
  clear hw_
  refine hKz _ _ ⟨hb1, ?_⟩
  clear hKz Kz hi
  clear hwr
  cases h1 : decide (0 ≤ s ∧ s ≤ (x.two.length : Int) - 1)
  · have hN : Hid (R = false) := by unfold Hid; rw [hR.out]; unfold mindsX; rw [show decide (0 ≤ s ∧ s < ((x.p.two).length : Int)) = false from decide_eq_false (by have := of_decide_eq_false h1; rw [p_two_len]; omega)]; rfl
    clear h1
    refine takeW 6 11 (.bool false) rfl rfl (by kernel_rfl) (by kernel_rfl) (by kernel_rfl) (fun _ _ _ h => h) (by kernel_rfl) (by (intro w hSw; go_simp)) (by assumption) ?_
    simp only [List.set_cons_zero, List.set_cons_succ]
    refine takeS 7 12 rfl rfl (by kernel_rfl) (by kernel_rfl) (by kernel_rfl) (fun _ _ _ h => h) (by kernel_rfl) (by assumption) ?_
    simp only [List.set_cons_zero, List.set_cons_succ]
    refine takeS 8 13 rfl rfl (by kernel_rfl) (by kernel_rfl) (by kernel_rfl) (fun _ _ _ h => h) (by kernel_rfl) (by assumption) ?_
    simp only [List.set_cons_zero, List.set_cons_succ]
    refine takeS 9 14 rfl rfl (by kernel_rfl) (by kernel_rfl) (by kernel_rfl) (fun _ _ _ h => h) (by kernel_rfl) (by assumption) ?_
    simp only [List.set_cons_zero, List.set_cons_succ]
    refine takeS 10 15 rfl rfl (by kernel_rfl) (by kernel_rfl) (by kernel_rfl) (fun _ _ _ h => h) (by kernel_rfl) (by assumption) ?_
    simp only [List.set_cons_zero, List.set_cons_succ]
    refine takeS 11 16 rfl rfl (by kernel_rfl) (by kernel_rfl) (by kernel_rfl) (fun _ _ _ h => h) (by kernel_rfl) (by assumption) ?_
    simp only [List.set_cons_zero, List.set_cons_succ]
    refine takeS 12 17 rfl rfl (by kernel_rfl) (by kernel_rfl) (by kernel_rfl) (fun _ _ _ h => h) (by kernel_rfl) (by assumption) ?_
    simp only [List.set_cons_zero, List.set_cons_succ]
    refine takeS 13 18 rfl rfl (by kernel_rfl) (by kernel_rfl) (by kernel_rfl) (fun _ _ _ h => h) (by kernel_rfl) (by assumption) ?_
    simp only [List.set_cons_zero, List.set_cons_succ]
    refine takeS 14 19 rfl rfl (by kernel_rfl) (by kernel_rfl) (by kernel_rfl) (fun _ _ _ h => h) (by kernel_rfl) (by assumption) ?_
    simp only [List.set_cons_zero, List.set_cons_succ]
    refine takeS 15 20 rfl rfl (by kernel_rfl) (by kernel_rfl) (by kernel_rfl) (fun _ _ _ h => h) (by kernel_rfl) (by assumption) ?_
    simp only [List.set_cons_zero, List.set_cons_succ]
    refine takeW 16 21 (.bool false) rfl rfl (by kernel_rfl) (by kernel_rfl) (by kernel_rfl) (fun _ _ _ h => h) (by kernel_rfl) (by (intro w hSw; go_simp)) (by assumption) ?_
    simp only [List.set_cons_zero, List.set_cons_succ]
    refine takeW 17 4 (.bool false) rfl rfl (by kernel_rfl) (by kernel_rfl) (by kernel_rfl) (fun _ _ _ h => h) (by kernel_rfl) (by (intro w hSw; go_simp)) (by assumption) ?_
    simp only [List.set_cons_zero, List.set_cons_succ]
    refine wpAnyH_done (by kernel_rfl) ?_ _
    go_wp2
    go_ret
    exact ⟨by rw [hN.out]; rfl, B0.trans (hb1.mono B0.size)⟩
  · have h1' := of_decide_eq_true h1
    obtain ⟨k, rfl⟩ : ∃ k : Nat, s = (k : Int) := ⟨s.toNat, by omega⟩
    have hk : k < x.two.length := by omega
    have hcap := V.ct
    obtain ⟨d, hd⟩ : ∃ d, x.two.getD k MiD.nil = d := ⟨_, rfl⟩
    have hvl := V.l k hk
    have hll := V.bl k hk
    rw [hd] at hvl hll
    have hN : Hid (R = mindsB x.rg (k : Int) d.m) := by unfold Hid; rw [hR.out]; unfold mindsX; rw [show decide (0 ≤ (k : Int) ∧ (k : Int) < ((x.p.two).length : Int)) = true from decide_eq_true (by rw [p_two_len]; omega), mOf_p, Int.toNat_natCast, hd]; rfl
    obtain ⟨b, off, hat, _⟩ := V.t (by omega)
    have hck : ∀ Y, Below y.heap.size y Y → MdAtO Y b (off + k * 7) d := fun Y hY => by have ht := (V.later hY).t; rw [hat] at ht; rw [← hd]; exact mdAtO_of (ht.at_ mdEnc_len MiD.nil hk)
    replace hd : Hid _ := hd
    clear h1 h1'
    refine takeW 6 11 (.bool true) rfl rfl (by kernel_rfl) (by kernel_rfl) (by kernel_rfl) (fun _ _ _ h => h) (by kernel_rfl) (by (intro w hSw; go_simp)) (by assumption) ?_
    simp only [List.set_cons_zero, List.set_cons_succ]
    refine takeW 7 12 (.pointer (some ⟨w.heap.size, 2, none⟩)) rfl rfl (by kernel_rfl) (by kernel_rfl) (by kernel_rfl) (fun _ _ _ h => h) (by kernel_rfl) (by (intro w hSw; go_simp)) (by assumption) ?_
    simp only [List.set_cons_zero, List.set_cons_succ]
    refine takeW 8 13 (.agg #[.int .i64 x.rg.ep, .int .i64 x.rg.ow, .int .i64 x.rg.pa]) rfl rfl (by kernel_rfl) (by kernel_rfl) (by kernel_rfl) (fun _ _ _ h => h) (by kernel_rfl) (by (intro Y hSw; obtain ⟨X0, X1, X2, X3, X4, X5, X6, X7, X8, X9⟩ := A.below hSw A.lt; go_simp)) (by assumption) ?_
    simp only [List.set_cons_zero, List.set_cons_succ]
    refine takeW 9 14 (.int .i64 (k : Int)) rfl rfl (by kernel_rfl) (by kernel_rfl) (by kernel_rfl) (fun _ _ _ h => h) (by kernel_rfl) (by (intro w hSw; go_simp)) (by assumption) ?_
    simp only [List.set_cons_zero, List.set_cons_succ]
    refine takeW 10 15 (.pointer (some ⟨w.heap.size, 5, none⟩)) rfl rfl (by kernel_rfl) (by kernel_rfl) (by kernel_rfl) (fun _ _ _ h => h) (by kernel_rfl) (by (intro w hSw; go_simp)) (by assumption) ?_
    simp only [List.set_cons_zero, List.set_cons_succ]
    refine takeW 11 16 (.slice (some ⟨b, off, none⟩) x.two.length x.cT) rfl rfl (by kernel_rfl) (by kernel_rfl) (by kernel_rfl) (fun _ _ _ h => h) (by kernel_rfl) (by (intro Y hSw; obtain ⟨X0, X1, X2, X3, X4, X5, X6, X7, X8, X9⟩ := A.below hSw A.lt; rw [hat] at X5; go_simp)) (by assumption) ?_
    simp only [List.set_cons_zero, List.set_cons_succ]
    refine takeW 12 17 (.int .i64 (k : Int)) rfl rfl (by kernel_rfl) (by kernel_rfl) (by kernel_rfl) (fun _ _ _ h => h) (by kernel_rfl) (by (intro w hSw; go_simp)) (by assumption) ?_
    simp only [List.set_cons_zero, List.set_cons_succ]
    refine takeW 13 18 (.pointer (some ⟨b, off + k * 7, none⟩)) rfl rfl (by kernel_rfl) (by kernel_rfl) (by kernel_rfl) (fun _ _ _ h => h) (by kernel_rfl) (by (intro Y hSw; go_simp; try omega)) (by assumption) ?_
    simp only [List.set_cons_zero, List.set_cons_succ]
    refine takeW 14 19 (.agg #[.bool d.m.up, .int .i64 d.m.li, .int .i64 d.m.ep, .slice d.ad d.m.lg.length d.cap, .int .i64 d.m.sd, .int .i64 d.m.ac, .int .i64 d.m.al]) rfl rfl (by kernel_rfl) (by kernel_rfl) (by kernel_rfl) (fun _ _ _ h => h) (by kernel_rfl) (by (intro Y hSw; obtain ⟨X0, X1, X2, X3, X4, X5, X6⟩ := hck Y hSw; go_simp)) (by assumption) ?_
    simp only [List.set_cons_zero, List.set_cons_succ]
    refine wpAnyH_all (rs := [15]) (by kernel_rfl) (by simp) ?_
    intro i hi; obtain rfl : i = 15 := by simpa using hi
    refine wpOp_step rfl (fun Kz hKz => ?_)
    rw [if_pos (by kernel_rfl)]
    go_simp
    go_at_call 19
    refine (mindsS x.rg (k : Int) d.m d.ad d.cap u1 (hvl.below hb1 (hvl.lt ikEnc_len (by omega))) (by omega)).mono ?_
    rintro e u2 ⟨rfl, kq⟩
    rw [← hN.out]
    have hb2 : Below y.heap.size y u2 := hb1.trans (kq.mono hb1.size)
    clear kq
    refine hKz _ _ ⟨hb2, ?_⟩
    clear hKz Kz hi
    refine takeW 16 21 (.bool R) rfl rfl (by kernel_rfl) (by kernel_rfl) (by kernel_rfl) (fun _ _ _ h => h) (by kernel_rfl) (by (intro w hSw; go_simp)) (by assumption) ?_
    simp only [List.set_cons_zero, List.set_cons_succ]
    refine takeW 17 4 (.bool R) rfl rfl (by kernel_rfl) (by kernel_rfl) (by kernel_rfl) (fun _ _ _ h => h) (by kernel_rfl) (by (intro w hSw; go_simp)) (by assumption) ?_
    simp only [List.set_cons_zero, List.set_cons_succ]
    refine wpAnyH_done (by kernel_rfl) ?_ _
    go_wp2
    go_ret
    exact ⟨rfl, B0.trans (hb2.mono B0.size)⟩
set_option maxHeartbeats 4000000 in
theorem whoS (x : BxD) (w : World) (hV : BxV w x) :
    Calls Tryz.prog 245 #[.agg #[.int .i64 x.id, .int .i64 x.po, .int .i64 x.rg.ep, .int .i64 x.rg.ow, .int .i64 x.rg.pa, .slice x.aT x.two.length x.cT, .slice x.aN x.net.length x.cN, .slice x.aG x.ga.length x.cG, .slice x.aL x.ln.length x.cL, .slice x.aS x.sd.length x.cS]] w fun e w' => e = .returned (.int .i64 (whoX x.p)) ∧ Below w.heap.size w w' := by
  obtain ⟨R, hR⟩ : ∃ R, R = whoX x.p := ⟨_, rfl⟩
  rw [← hR]
  replace hR : Hid _ := hR
  obtain ⟨y, hy⟩ : ∃ y, y = w.alloc (Obj.cells #[.int .i64 x.id, .int .i64 x.po, .int .i64 x.rg.ep, .int .i64 x.rg.ow, .int .i64 x.rg.pa, .slice x.aT x.two.length x.cT, .slice x.aN x.net.length x.cN, .slice x.aG x.ga.length x.cG, .slice x.aL x.ln.length x.cL, .slice x.aS x.sd.length x.cS] 48) := ⟨_, rfl⟩
  have B0 : Below w.heap.size w y := by rw [hy]; exact below_new _
  have A : BxAt y w.heap.size x := by rw [hy]; exact BxAt.new w _ x
  have V := hV.later B0
  go_enter Tryz.func245, Tryz.ntmps245
  go_upto_region 2 with fail
  rw [← hy]
  clear hy hV
  refine wp_loop_rounds 3 ?_
  rw [rounds_succ]
  have cc := A
  obtain ⟨a0, a1, a2, a3, a4, a5, a6, a7, a8, a9⟩ := cc
  go_wp2_with fail
  go_at_call 96
  clear a0 a1 a2 a3 a4 a5 a6 a7 a8 a9
  refine (mindsXS x 0 y V).mono ?_
  rintro e v1 ⟨rfl, k1⟩
  have A := A.below k1 A.lt
  have V := V.later k1
  have B1 := B0.trans (k1.mono B0.size)
  clear k1 B0
  cases h0 : mindsX x.p 0
  · replace h0 : Hid _ := h0
    go_wp2
    rw [rounds_succ]
    have cc := A
    obtain ⟨a0, a1, a2, a3, a4, a5, a6, a7, a8, a9⟩ := cc
    go_wp2_with fail
    go_at_call 96
    clear a0 a1 a2 a3 a4 a5 a6 a7 a8 a9
    refine (mindsXS x 1 v1 V).mono ?_
    rintro e v2 ⟨rfl, k2⟩
    have B2 := B1.trans (k2.mono B1.size)
    clear k2 B1
    cases h1 : mindsX x.p 1
    · have hN : Hid (R = -1) := by unfold Hid; rw [hR.out]; unfold whoX; rw [h0.out, h1]; rfl
      clear h1
      go_wp2
      rw [rounds_succ]
      go_wp2
      go_ret
      exact ⟨by rw [hN.out]; rfl, B2⟩
    · have hN : Hid (R = 1) := by unfold Hid; rw [hR.out]; unfold whoX; rw [h0.out, h1]; rfl
      clear h1
      go_wp2
      go_ret
      exact ⟨by rw [hN.out]; rfl, B2⟩
  · have hN : Hid (R = 0) := by unfold Hid; rw [hR.out]; unfold whoX; rw [h0]; rfl
    clear h0
    go_wp2
    go_ret
    exact ⟨by rw [hN.out]; rfl, B1⟩

end Go.Proofs.YtnpiljegdiconaaGreat
namespace Go.Proofs.YtnpiljegdiconaaGreat
open Go.ChangeShapes Go.WideShapes Go.ChangeAt Go.RowKit
open Go.ChangeMaps (open_string shut_string)
set_option linter.unusedVariables false
set_option maxRecDepth 100000

theorem MdAtO.below {w w' : World} {q o n : Nat} {x : MiD} (h : MdAtO w q o x) (k : Below n w w') (hq : q < n) : MdAtO w' q o x :=
  ⟨(World.cell?_of_block (a := ⟨q, o, none⟩) (k.block q hq)).trans h.c0, (World.cell?_of_block (a := ⟨q, o + 1, none⟩) (k.block q hq)).trans h.c1, (World.cell?_of_block (a := ⟨q, o + 2, none⟩) (k.block q hq)).trans h.c2, (World.cell?_of_block (a := ⟨q, o + 3, none⟩) (k.block q hq)).trans h.c3, (World.cell?_of_block (a := ⟨q, o + 4, none⟩) (k.block q hq)).trans h.c4, (World.cell?_of_block (a := ⟨q, o + 5, none⟩) (k.block q hq)).trans h.c5, (World.cell?_of_block (a := ⟨q, o + 6, none⟩) (k.block q hq)).trans h.c6⟩
theorem dec40 (n : Nat) : (true && (true && (true && (true && (true && (true && decide (n ≤ 40))))))) = decide ((n : Int) ≤ 40) := by
  by_cases h : n ≤ 40
  · rw [decide_eq_true h, decide_eq_true (show (n : Int) ≤ 40 by omega)]; rfl
  · rw [decide_eq_false h, decide_eq_false (show ¬ (n : Int) ≤ 40 by omega)]; rfl
set_option maxHeartbeats 8000000 in
theorem boxOkS (x : BxD) (w : World) (hV : BxV w x) :
    Calls Tryz.prog 33 #[.agg #[.int .i64 x.id, .int .i64 x.po, .int .i64 x.rg.ep, .int .i64 x.rg.ow, .int .i64 x.rg.pa, .slice x.aT x.two.length x.cT, .slice x.aN x.net.length x.cN, .slice x.aG x.ga.length x.cG, .slice x.aL x.ln.length x.cL, .slice x.aS x.sd.length x.cS]] w fun e w' => e = .returned (.bool (bxOk x.p)) ∧ Below w.heap.size w w' := by
  obtain ⟨R, hR⟩ : ∃ R, R = bxOk x.p := ⟨_, rfl⟩
  rw [← hR]
  replace hR : Hid _ := hR
  obtain ⟨y, hy⟩ : ∃ y, y = w.alloc (Obj.cells #[.int .i64 x.id, .int .i64 x.po, .int .i64 x.rg.ep, .int .i64 x.rg.ow, .int .i64 x.rg.pa, .slice x.aT x.two.length x.cT, .slice x.aN x.net.length x.cN, .slice x.aG x.ga.length x.cG, .slice x.aL x.ln.length x.cL, .slice x.aS x.sd.length x.cS] 48) := ⟨_, rfl⟩
  have B0 : Below w.heap.size w y := by rw [hy]; exact below_new _
  have A : BxAt y w.heap.size x := by rw [hy]; exact BxAt.new w _ x
  have V := hV.later B0
  go_enter Tryz.func33, Tryz.ntmps33
  have cc := A
  obtain ⟨a0, a1, a2, a3, a4, a5, a6, a7, a8, a9⟩ := cc
  go_wp2_with fail
  go_at_call 30
  rw [← hy]
  clear hy hV a0 a1 a2 a3 a4 a5 a6 a7 a8 a9
  refine (newBS x.id x.po y).mono ?_
  rintro e u1 ⟨ab, cb, rfl, _, k1⟩
  have A := A.below k1 A.lt
  have V := V.later k1
  have B1 := B0.trans (k1.mono B0.size)
  clear k1 B0
  obtain ⟨u2, hu2⟩ : ∃ u2, u2 = u1.alloc (Obj.cells #[.int .i64 (newI x.id x.po), .slice ab (newL x.id x.po).length cb] 56) := ⟨_, rfl⟩
  have k2 : Below u1.heap.size u1 u2 := by rw [hu2]; exact below_new _
  have A := A.below k2 A.lt
  have V := V.later k2
  have B2 := B1.trans (k2.mono B1.size)
  go_upto_region 2 with fail
  rw [← hu2]
  clear hu2 k2 B1
  cases h1 : nOk x.id x.po
  · have hN : Hid (R = false) := by unfold Hid; rw [hR.out]; unfold bxOk; rw [show nOk x.p.id x.p.po = _ from h1]; rfl
    go_wp2
    go_ret
    exact ⟨by rw [hN.out]; rfl, B2⟩
  · replace h1 : Hid _ := h1
    have cc := A
    obtain ⟨a0, a1, a2, a3, a4, a5, a6, a7, a8, a9⟩ := cc
    go_wp2_with fail
    go_at_call 21
    clear a0 a1 a2 a3 a4 a5 a6 a7 a8 a9
    refine (regOkS x.rg u2).mono ?_
    rintro e u3 ⟨rfl, k3⟩
    have A := A.below k3 A.lt
    have V := V.later k3
    have B3 := B2.trans (k3.mono B2.size)
    clear k3 B2
    cases h2 : rgOk x.rg
    · have hN : Hid (R = false) := by unfold Hid; rw [hR.out]; unfold bxOk; rw [show nOk x.p.id x.p.po = _ from h1.out, show rgOk x.p.rg = _ from h2]; rfl
      clear h2
      go_wp2
      go_ret
      exact ⟨by rw [hN.out]; rfl, B3⟩
    · replace h2 : Hid _ := h2
      by_cases h3 : x.two.length = 2
      · have d3 : ((x.two.length : Int) != 2) = false := by rw [bne_eq_false_iff_eq]; omega
        have h3' : Hid (decide (x.two.length = 2) = true) := decide_eq_true h3
        replace h3 : Hid (decide (x.p.two.length = 2) = true) := decide_eq_true (by rw [p_two_len]; exact of_decide_eq_true h3'.out)
        have h3n : 1 < x.two.length := by have := of_decide_eq_true h3'.out; omega
        clear h3'
        obtain ⟨d, hd⟩ : ∃ d, x.two.getD 0 MiD.nil = d := ⟨_, rfl⟩
        obtain ⟨d2, hd2⟩ : ∃ d, x.two.getD 1 MiD.nil = d := ⟨_, rfl⟩
        have vl1 := V.l 0 (by omega)
        have vl2 := V.l 1 h3n
        have ll1 := V.bl 0 (by omega)
        have ll2 := V.bl 1 h3n
        rw [hd] at vl1 ll1
        rw [hd2] at vl2 ll2
        have m0 : Hid (mOf x.p 0 = d.m) := by unfold Hid; rw [mOf_p]; show (x.two.getD 0 MiD.nil).m = _; rw [hd]
        have m1 : Hid (mOf x.p 1 = d2.m) := by unfold Hid; rw [mOf_p]; show (x.two.getD 1 MiD.nil).m = _; rw [hd2]
        obtain ⟨b, off, hat, _⟩ := V.t (by omega)
        have hc0 : MdAtO u3 b off d := by have ht := V.t; rw [hat] at ht; have := mdAtO_of (ht.at_ mdEnc_len MiD.nil (show 0 < x.two.length by omega)); rw [hd, Nat.zero_mul, Nat.add_zero] at this; exact this
        have hc1 : MdAtO u3 b (off + 7) d2 := by have ht := V.t; rw [hat] at ht; have := mdAtO_of (ht.at_ mdEnc_len MiD.nil h3n); rw [hd2, Nat.one_mul] at this; exact this
        have hbl : b < u3.heap.size := World.block_lt_of_cell? _ _ hc0.c0
        replace hat : Hid _ := hat
        replace hd : Hid _ := hd
        replace hd2 : Hid _ := hd2
        have cc := A
        obtain ⟨a0, a1, a2, a3, a4, a5, a6, a7, a8, a9⟩ := cc
        rw [hat.out] at a5
        have cc := hc0
        obtain ⟨e0, e1, e2, e3, e4, e5, e6⟩ := cc
        go_wp2_with fail
        go_at_call 64
        clear a0 a1 a2 a3 a4 a5 a6 a7 a8 a9 e0 e1 e2 e3 e4 e5 e6 d3
        refine (miOkS d.m d.ad d.cap u3 vl1 (by omega)).mono ?_
        rintro e u5 ⟨rfl, k5⟩
        have vl2 := vl2.below k5 (vl2.lt ikEnc_len (by omega))
        have hc1 : MdAtO u5 b (off + 7) d2 := hc1.below k5 hbl
        have A := A.below k5 A.lt
        have V := V.later k5
        have B5 := B3.trans (k5.mono B3.size)
        clear k5 B3
        cases h4 : miOk d.m
        · have hN : Hid (R = false) := by unfold Hid; rw [hR.out]; unfold bxOk; rw [show nOk x.p.id x.p.po = _ from h1.out, show rgOk x.p.rg = _ from h2.out, h3.out, show miOk (mOf x.p 0) = false by rw [m0.out]; exact h4]; rfl
          clear h4
          go_wp2
          go_ret
          exact ⟨by rw [hN.out]; rfl, B5⟩
        · replace h4 : Hid (miOk (mOf x.p 0) = true) := by unfold Hid; rw [m0.out]; exact h4
          have cc := A
          obtain ⟨a0, a1, a2, a3, a4, a5, a6, a7, a8, a9⟩ := cc
          rw [hat.out] at a5
          have cc := hc1
          obtain ⟨e0, e1, e2, e3, e4, e5, e6⟩ := cc
          go_wp2_with fail
          go_at_call 64
          clear a0 a1 a2 a3 a4 a5 a6 a7 a8 a9 e0 e1 e2 e3 e4 e5 e6
          refine (miOkS d2.m d2.ad d2.cap u5 vl2 (by omega)).mono ?_
          rintro e u6 ⟨rfl, k6⟩
          have A := A.below k6 A.lt
          have V := V.later k6
          have B6 := B5.trans (k6.mono B5.size)
          clear k6 B5
          cases h5 : miOk d2.m
          · have hN : Hid (R = false) := by unfold Hid; rw [hR.out]; unfold bxOk; rw [show nOk x.p.id x.p.po = _ from h1.out, show rgOk x.p.rg = _ from h2.out, h3.out, h4.out, show miOk (mOf x.p 1) = false by rw [m1.out]; exact h5]; rfl
            clear h5
            go_wp2
            go_ret
            exact ⟨by rw [hN.out]; rfl, B6⟩
          · replace h5 : Hid (miOk (mOf x.p 1) = true) := by unfold Hid; rw [m1.out]; exact h5
            have cc := A
            obtain ⟨a0, a1, a2, a3, a4, a5, a6, a7, a8, a9⟩ := cc
            go_wp2_with fail
            go_at_call 89
            clear a0 a1 a2 a3 a4 a5 a6 a7 a8 a9
            refine (netS x u6 V).mono ?_
            rintro e u7 ⟨rfl, k7⟩
            have A := A.below k7 A.lt
            have V := V.later k7
            have B7 := B6.trans (k7.mono B6.size)
            clear k7 B6
            cases h6 : x.net.all wiOk && decide (x.net.length ≤ 20)
            · have h6' : (x.p.net.all wiOk && (decide (x.p.net.length ≤ 20) && (decide ((x.p.ga.length : Int) = x.p.po) && (insB x.p.ln && decide (x.p.sd.length ≤ 40))))) = false := by rw [← Bool.and_assoc, show (x.p.net.all wiOk && decide (x.p.net.length ≤ 20)) = false from h6]; rfl
              have hN : Hid (R = false) := by unfold Hid; rw [hR.out]; unfold bxOk; rw [show nOk x.p.id x.p.po = _ from h1.out, show rgOk x.p.rg = _ from h2.out, show decide (x.p.two.length = 2) = _ from h3.out, h4.out, h5.out, h6']; rfl
              clear h6 h6'
              go_wp2
              go_ret
              exact ⟨by rw [hN.out]; rfl, B7⟩
            · replace h6 : Hid _ := h6
              have h6' : Hid (∀ t, (x.p.net.all wiOk && (decide (x.p.net.length ≤ 20) && t)) = t) := fun t => by rw [← Bool.and_assoc, show (x.p.net.all wiOk && decide (x.p.net.length ≤ 20)) = true from h6.out]; rfl
              by_cases h7 : (x.ga.length : Int) = x.po
              · have d7 : ((x.ga.length : Int) == x.po) = true := by simpa using h7
                have h7' : Hid (decide ((x.p.ga.length : Int) = x.p.po) = true) := decide_eq_true h7
                replace h7 : Hid _ := h7
                have cc := A
                obtain ⟨a0, a1, a2, a3, a4, a5, a6, a7, a8, a9⟩ := cc
                go_wp2_with fail
                go_at_call 90
                clear a0 a1 a2 a3 a4 a5 a6 a7 a8 a9
                refine (insS x.aL x.cL x.ln u7 V.i (by have := V.bi; omega)).mono ?_
                rintro e u8 ⟨rfl, k8⟩
                have bs := V.bs
                have A := A.below k8 A.lt
                have V := V.later k8
                have B8 := B7.trans (k8.mono B7.size)
                clear k8 B7
                cases h8 : insB x.ln
                · have hN : Hid (R = false) := by unfold Hid; rw [hR.out]; unfold bxOk; rw [show nOk x.p.id x.p.po = _ from h1.out, show rgOk x.p.rg = _ from h2.out, show decide (x.p.two.length = 2) = _ from h3.out, h4.out, h5.out, h6'.out, h7'.out, show insB x.p.ln = _ from h8]; rfl
                  clear h8
                  go_wp2
                  go_ret
                  exact ⟨by rw [hN.out]; rfl, B8⟩
                · replace h8 : Hid _ := h8
                  have cc := A
                  obtain ⟨a0, a1, a2, a3, a4, a5, a6, a7, a8, a9⟩ := cc
                  have hN : Hid (R = decide ((x.sd.length : Int) ≤ 40)) := by unfold Hid; rw [hR.out]; unfold bxOk; rw [show nOk x.p.id x.p.po = _ from h1.out, show rgOk x.p.rg = _ from h2.out, show decide (x.p.two.length = 2) = _ from h3.out, h4.out, h5.out, h6'.out, h7'.out, show insB x.p.ln = _ from h8.out]; exact dec40 x.sd.length
                  go_wp2
                  go_ret
                  exact ⟨by rw [hN.out]; rfl, B8⟩
              · have d7 : ((x.ga.length : Int) == x.po) = false := by rw [beq_eq_false_iff_ne]; exact h7
                have cc := A
                obtain ⟨a0, a1, a2, a3, a4, a5, a6, a7, a8, a9⟩ := cc
                have hN : Hid (R = false) := by unfold Hid; rw [hR.out]; unfold bxOk; rw [show nOk x.p.id x.p.po = _ from h1.out, show rgOk x.p.rg = _ from h2.out, show decide (x.p.two.length = 2) = _ from h3.out, h4.out, h5.out, h6'.out, show decide ((x.p.ga.length : Int) = x.p.po) = false from decide_eq_false h7]; rfl
                clear h7
                go_wp2
                go_ret
                exact ⟨by rw [hN.out]; rfl, B7⟩
      · have d3 : ((x.two.length : Int) != 2) = true := by rw [bne_iff_ne]; omega
        have cc := A
        obtain ⟨a0, a1, a2, a3, a4, a5, a6, a7, a8, a9⟩ := cc
        have hN : Hid (R = false) := by unfold Hid; rw [hR.out]; unfold bxOk; rw [show nOk x.p.id x.p.po = _ from h1.out, show rgOk x.p.rg = _ from h2.out, show decide (x.p.two.length = 2) = false from decide_eq_false (by rw [p_two_len]; exact h3)]; rfl
        clear h3
        go_wp2
        go_ret
        exact ⟨by rw [hN.out]; rfl, B3⟩

end Go.Proofs.YtnpiljegdiconaaGreat
namespace Go.Proofs.YtnpiljegdiconaaGreat
open Go.ChangeShapes Go.WideShapes Go.ChangeAt Go.RowKit
open Go.ChangeMaps (open_string shut_string)
set_option linter.unusedVariables false
set_option maxRecDepth 100000

theorem lToM_congr {D E : List MiD} (h : E.map MiD.m = D.map MiD.m) : ∀ n, lToM E n = lToM D n
  | 0 => rfl
  | n + 1 => by
    have e : (E.getD n MiD.nil).m = (D.getD n MiD.nil).m := by
      have := congrArg (fun L => L.getD n Mi.nil) h
      simpa only [md_get] using this
    show lToM E n + _ = lToM D n + _
    rw [lToM_congr h n, e]
theorem BxSm.of {x z : BxD} (k : BxSm x) (h : z.p = x.p) : BxSm z := by
  unfold BxD.p at h
  simp only [Bx.mk.injEq] at h
  obtain ⟨_, _, _, ht, hn, hg, hl, hs⟩ := h
  have hlen : z.two.length = x.two.length := by have := congrArg List.length ht; simpa using this
  exact ⟨by rw [hlen]; exact k.t, by rw [hlen, lToM_congr ht]; exact k.l, by rw [hn]; exact k.n, by rw [hg]; exact k.g, by rw [hl]; exact k.i, by rw [hs]; exact k.s⟩
theorem relS (x : BxD) (w : World) (hl : x.ln.length ≤ 1048576) :
    Calls Tryz.prog 35 #[.agg #[.int .i64 x.id, .int .i64 x.po, .int .i64 x.rg.ep, .int .i64 x.rg.ow, .int .i64 x.rg.pa, .slice x.aT x.two.length x.cT, .slice x.aN x.net.length x.cN, .slice x.aG x.ga.length x.cG, .slice x.aL x.ln.length x.cL, .slice x.aS x.sd.length x.cS]] w fun e w' => e = .returned (.int .i64 (x.ln.length : Int)) ∧ Below w.heap.size w w' := by
  go_enter Tryz.func35, Tryz.ntmps35
  go_wp2
  go_ret
  exact ⟨rfl, below_new _⟩
theorem relI (x : BxD) (w : World) (hl : x.ln.length ≤ 1048576) :
    Calls Tryz.prog 34 #[.agg #[.int .i64 x.id, .int .i64 x.po, .int .i64 x.rg.ep, .int .i64 x.rg.ow, .int .i64 x.rg.pa, .slice x.aT x.two.length x.cT, .slice x.aN x.net.length x.cN, .slice x.aG x.ga.length x.cG, .slice x.aL x.ln.length x.cL, .slice x.aS x.sd.length x.cS]] w fun e w' => e = .returned (.int .i64 (x.ln.length : Int)) ∧ Below w.heap.size w w' := by
  go_enter Tryz.func34, Tryz.ntmps34
  go_wp2
  go_ret
  exact ⟨rfl, below_new _⟩

end Go.Proofs.YtnpiljegdiconaaGreat
namespace Go.Proofs.YtnpiljegdiconaaGreat
open Go.ChangeShapes Go.WideShapes Go.ChangeAt Go.RowKit
open Go.ChangeMaps (open_string shut_string)
set_option linter.unusedVariables false
set_option maxRecDepth 100000

set_option linter.unusedSimpArgs false in
set_option maxHeartbeats 4000000 in
theorem pairedI (x : BxD) (w : World) (hJ : BxJ w x) (hb : bxOk x.p = true) :
    Calls Tryz.prog 102 #[.agg #[.int .i64 x.id, .int .i64 x.po, .int .i64 x.rg.ep, .int .i64 x.rg.ow, .int .i64 x.rg.pa, .slice x.aT x.two.length x.cT, .slice x.aN x.net.length x.cN, .slice x.aG x.ga.length x.cG, .slice x.aL x.ln.length x.cL, .slice x.aS x.sd.length x.cS]] w fun e w' => YN e (pairJ x.p) ∧ Below w.heap.size w w' := by
  obtain ⟨Q, hQ⟩ : ∃ Q : Prop, Q = (pairJ x.p) := ⟨_, rfl⟩
  rw [← hQ]
  replace hQ : Hid _ := hQ
  obtain ⟨y, hy⟩ : ∃ y, y = w.alloc (Obj.cells #[.int .i64 x.id, .int .i64 x.po, .int .i64 x.rg.ep, .int .i64 x.rg.ow, .int .i64 x.rg.pa, .slice x.aT x.two.length x.cT, .slice x.aN x.net.length x.cN, .slice x.aG x.ga.length x.cG, .slice x.aL x.ln.length x.cL, .slice x.aS x.sd.length x.cS] 48) := ⟨_, rfl⟩
  have B : Below w.heap.size w y := by rw [hy]; exact below_new _
  have A : BxAt y w.heap.size x := by rw [hy]; exact BxAt.new w _ x
  have J := hJ.later B
  obtain ⟨o0, o1⟩ := bxOk_ow hb
  obtain ⟨h2, _⟩ := bxOk_smJ hb
  obtain ⟨k, hk⟩ : ∃ k : Nat, 1 - x.rg.ow = (k : Int) := ⟨(1 - x.rg.ow).toNat, by omega⟩
  have hkl : k < x.two.length := by omega
  have hwr : IntKind.i64.wrap (1 - x.rg.ow) = (k : Int) := by rw [IntKind.wrap_i64]; omega
  obtain ⟨g, off, hat, _⟩ := J.v.t (by omega)
  obtain ⟨m, hm⟩ : ∃ m, x.two.getD k MiD.nil = m := ⟨_, rfl⟩
  have M0 : MdAtO y g (off + k * 7) m := by have h1 := J.v.t; rw [hat] at h1; have := mdAtO_of (h1.at_ mdEnc_len MiD.nil hkl); rw [hm] at this; exact this
  have gl : g < y.heap.size := J.v.t.lt mdEnc_len (by omega) _ hat (by omega)
  have hmo : mOf x.p (1 - x.rg.ow) = m.m := by rw [hk, mOf_p]; simp only [Int.toNat_natCast]; rw [hm]
  have hQ2 : Hid (Q ↔ m.m.up = true ∧ 0 < m.m.li ∧ m.m.li = x.rg.pa ∧ m.m.ep = 0) := by unfold Hid; rw [hQ.out]; unfold pairJ; show ((mOf x.p (1 - x.rg.ow)).up = true ∧ 0 < (mOf x.p (1 - x.rg.ow)).li ∧ (mOf x.p (1 - x.rg.ow)).li = x.rg.pa ∧ (mOf x.p (1 - x.rg.ow)).ep = 0) ↔ _; rw [hmo]
  clear hQ hmo hm hk o0 o1 h2 hb J hJ
  replace hat : Hid _ := hat
  go_enter Tryz.func102, Tryz.ntmps102
  go_upto_region 1 with fail
  rw [← hy]
  clear hy
  have cc := A
  obtain ⟨a0, a1, a2, a3, a4, a5, a6, a7, a8, a9⟩ := cc
  rw [hat.out] at a5
  obtain ⟨m0, m1, m2, m3, m4, m5, m6⟩ := M0
  go_upto_region 2 with fail
  clear m0 m1 m2 m3 m4 m5 m6 hwr hat
  obtain ⟨⟨up, li, ep, lg, sd, ac, al⟩, ad, cap⟩ := m
  dsimp only at hQ2 ⊢
  obtain ⟨y2, hy2⟩ : ∃ y_, y_ = y.alloc (Obj.cells #[.bool up, .int .i64 li, .int .i64 ep, .slice ad lg.length cap, .int .i64 sd, .int .i64 ac, .int .i64 al] 28) := ⟨_, rfl⟩
  rw [← hy2]
  have kq : Below y.heap.size y y2 := by rw [hy2]; exact below_new _
  have M2 : MiAt y2 y.heap.size ⟨up, li, ep, lg, sd, ac, al⟩ (.slice ad lg.length cap) := by rw [hy2]; constructor <;> simp [go_sem]
  have A2 := A.below kq A.lt
  have B := B.trans (kq.mono B.size)
  clear a0 a1 a2 a3 a4 a5 a6 a7 a8 a9 A hy2 kq gl
  obtain ⟨n0, n1, n2, n3, n4, n5, n6⟩ := M2
  obtain ⟨a0, a1, a2, a3, a4, a5, a6, a7, a8, a9⟩ := A2
  cases up
  · go_wp2
    go_ret
    exact ⟨YN.no (fun q_ => by have q2 := (hQ2.out.1 q_).1; first | cases q2 | exact q2.elim | simp at q2), B⟩
  · by_cases h1 : 0 < li
    · have d1 : decide (li > 0) = true := by simpa using h1
      have d1' : decide (0 < li) = true := by simpa using h1
      replace h1 : Hid _ := h1
      by_cases h2 : li = x.rg.pa
      · have d2 : (li == x.rg.pa) = true := by simpa using h2
        replace h2 : Hid _ := h2
        by_cases h3 : ep = 0
        · have d3 : (ep == 0) = true := by simpa using h3
          replace h3 : Hid _ := h3
          go_wp2
          go_ret
          exact ⟨YN.yes (hQ2.out.2 (by have q1 := h1.out; have q2 := h2.out; have q3 := h3.out; simp_all)), B⟩
        · have d3 : (ep == 0) = false := by simpa using h3
          replace h3 : Hid (¬ ep = 0) := h3
          go_wp2
          go_ret
          exact ⟨YN.no (fun q_ => by have q1 := h3.out; have q2 := (hQ2.out.1 q_).2.2.2; omega), B⟩
      · have d2 : (li == x.rg.pa) = false := by simpa using h2
        replace h2 : Hid (¬ li = x.rg.pa) := h2
        go_wp2
        go_ret
        exact ⟨YN.no (fun q_ => by have q1 := h2.out; have q2 := (hQ2.out.1 q_).2.2.1; omega), B⟩
    · have d1 : decide (li > 0) = false := by simpa using h1
      have d1' : decide (0 < li) = false := by simpa using h1
      replace h1 : Hid (¬ 0 < li) := h1
      go_wp2
      go_ret
      exact ⟨YN.no (fun q_ => by have q1 := h1.out; have q2 := (hQ2.out.1 q_).2.1; omega), B⟩
set_option linter.unusedSimpArgs false in
set_option maxHeartbeats 4000000 in
theorem beginsI (x : BxD) (k : Nat) (hk : k < 2) (w : World) (hJ : BxJ w x) (hb : bxOk x.p = true) :
    Calls Tryz.prog 159 #[.agg #[.int .i64 x.id, .int .i64 x.po, .int .i64 x.rg.ep, .int .i64 x.rg.ow, .int .i64 x.rg.pa, .slice x.aT x.two.length x.cT, .slice x.aN x.net.length x.cN, .slice x.aG x.ga.length x.cG, .slice x.aL x.ln.length x.cL, .slice x.aS x.sd.length x.cS], .int .i64 (k : Int)] w fun e w' => YN e (begJ x.ln (x.two.getD k MiD.nil).m.lg) ∧ Below w.heap.size w w' := by
  obtain ⟨Q, hQ⟩ : ∃ Q : Prop, Q = (begJ x.ln (x.two.getD k MiD.nil).m.lg) := ⟨_, rfl⟩
  rw [← hQ]
  replace hQ : Hid _ := hQ
  obtain ⟨y, hy⟩ : ∃ y, y = w.alloc (Obj.cells #[.int .i64 x.id, .int .i64 x.po, .int .i64 x.rg.ep, .int .i64 x.rg.ow, .int .i64 x.rg.pa, .slice x.aT x.two.length x.cT, .slice x.aN x.net.length x.cN, .slice x.aG x.ga.length x.cG, .slice x.aL x.ln.length x.cL, .slice x.aS x.sd.length x.cS] 48) := ⟨_, rfl⟩
  have B : Below w.heap.size w y := by rw [hy]; exact below_new _
  have A : BxAt y w.heap.size x := by rw [hy]; exact BxAt.new w _ x
  have J := hJ.later B
  obtain ⟨h2, hmi, _, _, hln, _⟩ := bxOk_smJ hb
  have hkl : k < x.two.length := by omega
  obtain ⟨g, off, hat, _⟩ := J.v.t (by omega)
  obtain ⟨m, hm⟩ : ∃ m, x.two.getD k MiD.nil = m := ⟨_, rfl⟩
  have M0 : MdAtO y g (off + k * 7) m := by have h1 := J.v.t; rw [hat] at h1; have := mdAtO_of (h1.at_ mdEnc_len MiD.nil hkl); rw [hm] at this; exact this
  have gl : g < y.heap.size := J.v.t.lt mdEnc_len (by omega) _ hat (by omega)
  have hml := miOk_lgJ (hmi k (by omega))
  have hvl := J.v.l k hkl
  have hcl := J.c k hkl
  rw [hm] at hml hvl hcl hQ
  clear h2 hmi hb hJ
  have hBl := hvl.lt ikEnc_len (by omega)
  have hBn := J.v.i.lt ikEnc_len (by omega)
  replace hat : Hid _ := hat
  replace hm : Hid _ := hm
  go_enter Tryz.func159, Tryz.ntmps159
  go_upto_region 1 with fail
  rw [← hy]
  clear hy
  refine wp_region_held (S := fun Y => Below y.heap.size y Y) (by kernel_rfl) ?_
  change wpAnyH _ _ _ _ _ _ _ _ (World.drew _)
  have hb0 : Below y.heap.size y y.drew := (Below.refl _ _).drew
  obtain ⟨u0, hu0⟩ : ∃ y_, y_ = y.drew := ⟨_, rfl⟩
  rw [← hu0] at hb0 ⊢
  clear hu0
  refine takeW 0 7 (.pointer (some ⟨w.heap.size, 5, none⟩)) rfl rfl (by kernel_rfl) (by kernel_rfl) (by kernel_rfl) (fun _ _ _ h => h) (by kernel_rfl) (by (intro w hSw; go_simp)) (by assumption) ?_
  simp only [List.set_cons_zero, List.set_cons_succ]
  refine takeW 1 8 (.slice (some ⟨g, off, none⟩) x.two.length x.cT) rfl rfl (by kernel_rfl) (by kernel_rfl) (by kernel_rfl) (fun _ _ _ h => h) (by kernel_rfl) (by (intro Y hSw; obtain ⟨X0, X1, X2, X3, X4, X5, X6, X7, X8, X9⟩ := A.below hSw A.lt; rw [hat.out] at X5; go_simp)) (by assumption) ?_
  simp only [List.set_cons_zero, List.set_cons_succ]
  refine takeW 2 9 (.int .i64 (k : Int)) rfl rfl (by kernel_rfl) (by kernel_rfl) (by kernel_rfl) (fun _ _ _ h => h) (by kernel_rfl) (by (intro w hSw; go_simp)) (by assumption) ?_
  simp only [List.set_cons_zero, List.set_cons_succ]
  refine takeW 3 10 (.pointer (some ⟨g, off + k * 7, none⟩)) rfl rfl (by kernel_rfl) (by kernel_rfl) (by kernel_rfl) (fun _ _ _ h => h) (by kernel_rfl) (by (intro Y hSw; go_simp; try omega)) (by assumption) ?_
  simp only [List.set_cons_zero, List.set_cons_succ]
  refine takeW 4 11 (.pointer (some ⟨g, off + k * 7 + 3, none⟩)) rfl rfl (by kernel_rfl) (by kernel_rfl) (by kernel_rfl) (fun _ _ _ h => h) (by kernel_rfl) (by (intro w hSw; go_simp)) (by assumption) ?_
  simp only [List.set_cons_zero, List.set_cons_succ]
  refine takeW 5 12 (.slice m.ad m.m.lg.length m.cap) rfl rfl (by kernel_rfl) (by kernel_rfl) (by kernel_rfl) (fun _ _ _ h => h) (by kernel_rfl) (by (intro Y hSw; obtain ⟨X0, X1, X2, X3, X4, X5, X6⟩ := M0.belowJ hSw gl; go_simp)) (by assumption) ?_
  simp only [List.set_cons_zero, List.set_cons_succ]
  refine takeW 6 13 (.agg #[.int .i64 x.id, .int .i64 x.po, .int .i64 x.rg.ep, .int .i64 x.rg.ow, .int .i64 x.rg.pa, .slice x.aT x.two.length x.cT, .slice x.aN x.net.length x.cN, .slice x.aG x.ga.length x.cG, .slice x.aL x.ln.length x.cL, .slice x.aS x.sd.length x.cS]) rfl rfl (by kernel_rfl) (by kernel_rfl) (by kernel_rfl) (fun _ _ _ h => h) (by kernel_rfl) (by (intro Y hSw; obtain ⟨X0, X1, X2, X3, X4, X5, X6, X7, X8, X9⟩ := A.below hSw A.lt; go_simp)) (by assumption) ?_
  simp only [List.set_cons_zero, List.set_cons_succ]
  refine wpAnyH_all (rs := [7]) (by kernel_rfl) (by simp) ?_
  intro i hi; obtain rfl : i = 7 := by simpa using hi
  refine wpOp_step rfl (fun Kz hKz => ?_)
  rw [if_pos (by kernel_rfl)]
  go_simp
  go_at_call 34
  refine (relI x u0 (by omega)).mono ?_
  rintro e u1 ⟨rfl, kq⟩
  have hb1 : Below y.heap.size y u1 := hb0.trans (kq.mono hb0.size)
  clear kq
  refine hKz _ _ ⟨hb1, ?_⟩
  clear hKz Kz hi
  refine takeW 8 5 (.slice m.ad m.m.lg.length m.cap) rfl rfl (by kernel_rfl) (by kernel_rfl) (by kernel_rfl) (fun _ _ _ h => h) (by kernel_rfl) (by (intro w hSw; go_simp)) (by assumption) ?_
  simp only [List.set_cons_zero, List.set_cons_succ]
  refine takeW 9 6 (.int .i64 (x.ln.length : Int)) rfl rfl (by kernel_rfl) (by kernel_rfl) (by kernel_rfl) (fun _ _ _ h => h) (by kernel_rfl) (by (intro w hSw; go_simp)) (by assumption) ?_
  simp only [List.set_cons_zero, List.set_cons_succ]
  refine wpAnyH_done (by kernel_rfl) ?_ _
  clear hb0 u0 M0 gl hat
  have J := J.later hb1
  have A := A.below hb1 A.lt
  have B := B.trans (hb1.mono B.size)
  have hvl := hvl.below hb1 hBl
  have hvn := J.v.i
  have hBl := hvl.lt ikEnc_len (by omega)
  have hBn := hvn.lt ikEnc_len (by omega)
  clear hb1
  by_cases hle : x.ln.length ≤ m.m.lg.length
  · have d1 : decide ((m.m.lg.length : Int) ≥ (x.ln.length : Int)) = true := decide_eq_true (by omega)
    have d1' : decide ((x.ln.length : Int) ≤ (m.m.lg.length : Int)) = true := decide_eq_true (by omega)
    have d1'' : decide (x.ln.length ≤ m.m.lg.length) = true := decide_eq_true hle
    have hcx : x.ln.length ≤ m.cap := by omega
    have htl : (m.m.lg.take x.ln.length).length = x.ln.length := by rw [List.length_take]; omega
    replace htl : Hid _ := htl
    go_upto_region 2 with fail
    refine wp_region_held (S := fun Y => Below u1.heap.size u1 Y) (by kernel_rfl) ?_
    change wpAnyH _ _ _ _ _ _ _ _ (World.drew _)
    have hb0 : Below u1.heap.size u1 u1.drew := (Below.refl _ _).drew
    obtain ⟨u0, hu0⟩ : ∃ y_, y_ = u1.drew := ⟨_, rfl⟩
    rw [← hu0] at hb0 ⊢
    clear hu0
    refine takeW 0 15 (.slice m.ad m.m.lg.length m.cap) rfl rfl (by kernel_rfl) (by kernel_rfl) (by kernel_rfl) (fun _ _ _ h => h) (by kernel_rfl) (by (intro w hSw; go_simp)) (by assumption) ?_
    simp only [List.set_cons_zero, List.set_cons_succ]
    refine takeW 1 16 (.int .i64 (m.m.lg.length : Int)) rfl rfl (by kernel_rfl) (by kernel_rfl) (by kernel_rfl) (fun _ _ _ h => h) (by kernel_rfl) (by (intro w hSw; go_simp)) (by assumption) ?_
    simp only [List.set_cons_zero, List.set_cons_succ]
    refine takeW 2 17 (.int .i64 (x.ln.length : Int)) rfl rfl (by kernel_rfl) (by kernel_rfl) (by kernel_rfl) (fun _ _ _ h => h) (by kernel_rfl) (by (intro w hSw; go_simp)) (by assumption) ?_
    simp only [List.set_cons_zero, List.set_cons_succ]
    refine takeW 3 18 (.bool true) rfl rfl (by kernel_rfl) (by kernel_rfl) (by kernel_rfl) (fun _ _ _ h => h) (by kernel_rfl) (by (intro w hSw; go_simp)) (by assumption) ?_
    simp only [List.set_cons_zero, List.set_cons_succ]
    refine takeW 4 19 (.bool true) rfl rfl (by kernel_rfl) (by kernel_rfl) (by kernel_rfl) (fun _ _ _ h => h) (by kernel_rfl) (by (intro w hSw; go_simp)) (by assumption) ?_
    simp only [List.set_cons_zero, List.set_cons_succ]
    refine takeW 5 20 (.slice m.ad m.m.lg.length m.cap) rfl rfl (by kernel_rfl) (by kernel_rfl) (by kernel_rfl) (fun _ _ _ h => h) (by kernel_rfl) (by (intro w hSw; go_simp)) (by assumption) ?_
    simp only [List.set_cons_zero, List.set_cons_succ]
    refine takeW 6 21 (.int .i64 (x.ln.length : Int)) rfl rfl (by kernel_rfl) (by kernel_rfl) (by kernel_rfl) (fun _ _ _ h => h) (by kernel_rfl) (by (intro w hSw; go_simp)) (by assumption) ?_
    simp only [List.set_cons_zero, List.set_cons_succ]
    refine takeW 7 22 (.slice m.ad x.ln.length m.cap) rfl rfl (by kernel_rfl) (by kernel_rfl) (by kernel_rfl) (fun _ _ _ h => h) (by kernel_rfl) (by (intro Y hSw; go_simp; try omega)) (by assumption) ?_
    simp only [List.set_cons_zero, List.set_cons_succ]
    refine takeW 8 23 (.pointer (some ⟨w.heap.size, 8, none⟩)) rfl rfl (by kernel_rfl) (by kernel_rfl) (by kernel_rfl) (fun _ _ _ h => h) (by kernel_rfl) (by (intro w hSw; go_simp)) (by assumption) ?_
    simp only [List.set_cons_zero, List.set_cons_succ]
    refine takeW 9 24 (.slice x.aL x.ln.length x.cL) rfl rfl (by kernel_rfl) (by kernel_rfl) (by kernel_rfl) (fun _ _ _ h => h) (by kernel_rfl) (by (intro Y hSw; obtain ⟨X0, X1, X2, X3, X4, X5, X6, X7, X8, X9⟩ := A.below hSw A.lt; go_simp)) (by assumption) ?_
    simp only [List.set_cons_zero, List.set_cons_succ]
    refine wpAnyH_all (rs := [10]) (by kernel_rfl) (by simp) ?_
    intro i hi; obtain rfl : i = 10 := by simpa using hi
    refine wpOp_step rfl (fun Kz hKz => ?_)
    rw [if_pos (by kernel_rfl)]
    go_simp
    go_at_call 196
    refine (show Calls _ _ _ _ _ by have h_ := ikEql m.ad x.aL m.cap x.cL (m.m.lg.take x.ln.length) x.ln u0 ((hvl.below hb0 hBl).take _) (hvn.below hb0 hBn) (by rw [htl.out]; omega) (by omega); rw [htl.out] at h_; exact h_).mono ?_
    rintro e u2 ⟨⟨rb, rfl, hrb⟩, kq⟩
    have hb1 : Below u1.heap.size u1 u2 := hb0.trans (kq.mono hb0.size)
    clear kq
    replace hrb : Hid _ := hrb
    refine hKz _ _ ⟨hb1, ?_⟩
    clear hKz Kz hi
    refine takeW 11 26 (.bool rb) rfl rfl (by kernel_rfl) (by kernel_rfl) (by kernel_rfl) (fun _ _ _ h => h) (by kernel_rfl) (by (intro w hSw; go_simp)) (by assumption) ?_
    simp only [List.set_cons_zero, List.set_cons_succ]
    refine takeW 12 4 (.bool rb) rfl rfl (by kernel_rfl) (by kernel_rfl) (by kernel_rfl) (fun _ _ _ h => h) (by kernel_rfl) (by (intro w hSw; go_simp)) (by assumption) ?_
    simp only [List.set_cons_zero, List.set_cons_succ]
    refine wpAnyH_done (by kernel_rfl) ?_ _
    have B := B.trans (hb1.mono B.size)
    go_wp2
    go_ret
    exact ⟨YN.is (by rw [hQ.out]; exact hrb.out), B⟩
  · have d1 : decide ((m.m.lg.length : Int) ≥ (x.ln.length : Int)) = false := decide_eq_false (by omega)
    have d1' : decide ((x.ln.length : Int) ≤ (m.m.lg.length : Int)) = false := decide_eq_false (by omega)
    have d1'' : decide (x.ln.length ≤ m.m.lg.length) = false := decide_eq_false hle
    replace hle : Hid (¬ x.ln.length ≤ m.m.lg.length) := hle
    go_upto_region 2 with fail
    refine wp_region_held (S := fun Y => Below u1.heap.size u1 Y) (by kernel_rfl) ?_
    change wpAnyH _ _ _ _ _ _ _ _ (World.drew _)
    have hb0 : Below u1.heap.size u1 u1.drew := (Below.refl _ _).drew
    obtain ⟨u0, hu0⟩ : ∃ y_, y_ = u1.drew := ⟨_, rfl⟩
    rw [← hu0] at hb0 ⊢
    clear hu0
    refine takeW 0 15 (.slice m.ad m.m.lg.length m.cap) rfl rfl (by kernel_rfl) (by kernel_rfl) (by kernel_rfl) (fun _ _ _ h => h) (by kernel_rfl) (by (intro w hSw; go_simp)) (by assumption) ?_
    simp only [List.set_cons_zero, List.set_cons_succ]
    refine takeW 1 16 (.int .i64 (m.m.lg.length : Int)) rfl rfl (by kernel_rfl) (by kernel_rfl) (by kernel_rfl) (fun _ _ _ h => h) (by kernel_rfl) (by (intro w hSw; go_simp)) (by assumption) ?_
    simp only [List.set_cons_zero, List.set_cons_succ]
    refine takeW 2 17 (.int .i64 (x.ln.length : Int)) rfl rfl (by kernel_rfl) (by kernel_rfl) (by kernel_rfl) (fun _ _ _ h => h) (by kernel_rfl) (by (intro w hSw; go_simp)) (by assumption) ?_
    simp only [List.set_cons_zero, List.set_cons_succ]
    refine takeW 3 18 (.bool false) rfl rfl (by kernel_rfl) (by kernel_rfl) (by kernel_rfl) (fun _ _ _ h => h) (by kernel_rfl) (by (intro w hSw; go_simp)) (by assumption) ?_
    simp only [List.set_cons_zero, List.set_cons_succ]
    refine takeW 4 19 (.bool false) rfl rfl (by kernel_rfl) (by kernel_rfl) (by kernel_rfl) (fun _ _ _ h => h) (by kernel_rfl) (by (intro w hSw; go_simp)) (by assumption) ?_
    simp only [List.set_cons_zero, List.set_cons_succ]
    refine takeS 5 20 rfl rfl (by kernel_rfl) (by kernel_rfl) (by kernel_rfl) (fun _ _ _ h => h) (by kernel_rfl) (by assumption) ?_
    simp only [List.set_cons_zero, List.set_cons_succ]
    refine takeS 6 21 rfl rfl (by kernel_rfl) (by kernel_rfl) (by kernel_rfl) (fun _ _ _ h => h) (by kernel_rfl) (by assumption) ?_
    simp only [List.set_cons_zero, List.set_cons_succ]
    refine takeS 7 22 rfl rfl (by kernel_rfl) (by kernel_rfl) (by kernel_rfl) (fun _ _ _ h => h) (by kernel_rfl) (by assumption) ?_
    simp only [List.set_cons_zero, List.set_cons_succ]
    refine takeS 8 23 rfl rfl (by kernel_rfl) (by kernel_rfl) (by kernel_rfl) (fun _ _ _ h => h) (by kernel_rfl) (by assumption) ?_
    simp only [List.set_cons_zero, List.set_cons_succ]
    refine takeS 9 24 rfl rfl (by kernel_rfl) (by kernel_rfl) (by kernel_rfl) (fun _ _ _ h => h) (by kernel_rfl) (by assumption) ?_
    simp only [List.set_cons_zero, List.set_cons_succ]
    refine takeS 10 25 rfl rfl (by kernel_rfl) (by kernel_rfl) (by kernel_rfl) (fun _ _ _ h => h) (by kernel_rfl) (by assumption) ?_
    simp only [List.set_cons_zero, List.set_cons_succ]
    refine takeW 11 26 (.bool false) rfl rfl (by kernel_rfl) (by kernel_rfl) (by kernel_rfl) (fun _ _ _ h => h) (by kernel_rfl) (by (intro w hSw; go_simp)) (by assumption) ?_
    simp only [List.set_cons_zero, List.set_cons_succ]
    refine takeW 12 4 (.bool false) rfl rfl (by kernel_rfl) (by kernel_rfl) (by kernel_rfl) (fun _ _ _ h => h) (by kernel_rfl) (by (intro w hSw; go_simp)) (by assumption) ?_
    simp only [List.set_cons_zero, List.set_cons_succ]
    refine wpAnyH_done (by kernel_rfl) ?_ _
    have B := B.trans (hb0.mono B.size)
    go_wp2
    go_ret
    exact ⟨YN.no (fun q_ => hle.out (begJ_len (by rw [← hQ.out]; exact q_))), B⟩
set_option linter.unusedSimpArgs false in
set_option maxHeartbeats 4000000 in
theorem heirI (x : BxD) (w : World) (hJ : BxJ w x) (hb : bxOk x.p = true) :
    Calls Tryz.prog 101 #[.agg #[.int .i64 x.id, .int .i64 x.po, .int .i64 x.rg.ep, .int .i64 x.rg.ow, .int .i64 x.rg.pa, .slice x.aT x.two.length x.cT, .slice x.aN x.net.length x.cN, .slice x.aG x.ga.length x.cG, .slice x.aL x.ln.length x.cL, .slice x.aS x.sd.length x.cS]] w fun e w' => YN e (hasJ x.p) ∧ Below w.heap.size w w' := by
  obtain ⟨Q, hQ⟩ : ∃ Q : Prop, Q = (hasJ x.p) := ⟨_, rfl⟩
  rw [← hQ]
  replace hQ : Hid _ := hQ
  obtain ⟨y, hy⟩ : ∃ y, y = w.alloc (Obj.cells #[.int .i64 x.id, .int .i64 x.po, .int .i64 x.rg.ep, .int .i64 x.rg.ow, .int .i64 x.rg.pa, .slice x.aT x.two.length x.cT, .slice x.aN x.net.length x.cN, .slice x.aG x.ga.length x.cG, .slice x.aL x.ln.length x.cL, .slice x.aS x.sd.length x.cS] 48) := ⟨_, rfl⟩
  have B : Below w.heap.size w y := by rw [hy]; exact below_new _
  have A : BxAt y w.heap.size x := by rw [hy]; exact BxAt.new w _ x
  have J := hJ.later B
  obtain ⟨o0, o1⟩ := bxOk_ow hb
  obtain ⟨k, hk⟩ : ∃ k : Nat, 1 - x.rg.ow = (k : Int) := ⟨(1 - x.rg.ow).toNat, by omega⟩
  have hk2 : k < 2 := by omega
  have hwr : IntKind.i64.wrap (1 - x.rg.ow) = (k : Int) := by rw [IntKind.wrap_i64]; omega
  have hmo : mOf x.p (1 - x.rg.ow) = (x.two.getD k MiD.nil).m := by rw [hk, mOf_p]; simp only [Int.toNat_natCast]
  have hQ2 : Hid (Q ↔ (pairJ x.p → begJ x.ln (x.two.getD k MiD.nil).m.lg)) := by unfold Hid; rw [hQ.out]; unfold hasJ; show (pairJ x.p → begJ x.ln (mOf x.p (1 - x.rg.ow)).lg) ↔ _; rw [hmo]
  clear hQ hmo hk o0 o1 hJ
  replace hb : Hid _ := hb
  go_enter Tryz.func101, Tryz.ntmps101
  go_upto_region 1 with fail
  rw [← hy]
  clear hy
  have cc := A
  obtain ⟨a0, a1, a2, a3, a4, a5, a6, a7, a8, a9⟩ := cc
  go_wp2_with fail
  go_at_call 102
  clear a0 a1 a2 a3 a4 a5 a6 a7 a8 a9
  refine (pairedI x y J hb.out).mono ?_
  rintro e u1 ⟨⟨rb, rfl, hrb⟩, kq⟩
  have A := A.below kq A.lt
  have J := J.later kq
  have B := B.trans (kq.mono B.size)
  clear kq
  replace hrb : Hid _ := hrb
  cases rb
  · go_wp2
    go_ret
    exact ⟨YN.yes (hQ2.out.2 (fun p => by have := hrb.out.2 p; first | cases this | exact absurd this id)), B⟩
  · have cc := A
    obtain ⟨a0, a1, a2, a3, a4, a5, a6, a7, a8, a9⟩ := cc
    go_wp2_with fail
    go_at_call 159
    clear a0 a1 a2 a3 a4 a5 a6 a7 a8 a9
    refine (beginsI x k hk2 u1 J hb.out).mono ?_
    rintro e u2 ⟨⟨rc, rfl, hrc⟩, kq⟩
    have B := B.trans (kq.mono B.size)
    clear kq
    replace hrc : Hid _ := hrc
    go_wp2
    go_ret
    exact ⟨YN.is (by rw [hrc.out, hQ2.out]; exact ⟨fun h _ => h, fun h => h (by first | exact hrb.out.1 rfl | exact hrb.out.1 trivial)⟩), B⟩

end Go.Proofs.YtnpiljegdiconaaGreat
namespace Go.Proofs.YtnpiljegdiconaaGreat
open Go.ChangeShapes Go.WideShapes Go.ChangeAt Go.RowKit
open Go.ChangeMaps (open_string shut_string)
set_option linter.unusedVariables false
set_option maxRecDepth 100000

/-- A region by its states: whatever of those that may come up comes up. -/
theorem region_by {P : Program} {md : Region.Mode} {ops : Array Oper} {Q : Exit → Act → World → Prop} {S : World → Prop} {ds : List Deferred} {k : Nat} (I : Nat → Array Bool → List Value → World → Prop)
    (step : ∀ n listed l W, I (n + 1) listed l W → ∃ rs, Region.ready md ops listed = rs ∧ rs ≠ [] ∧ ∀ i, i ∈ rs → ∀ K : Act → World → Prop, (∀ l' W', S W' → I n (listed.setIfInBounds i true) l' W' → K ⟨l'.toArray, ds⟩ W') → wpOp P ops Q i K ⟨l.toArray, ds⟩ W)
    (fin : ∀ listed l W, I 0 listed l W → wpAnyH P md ops Q S k listed ⟨l.toArray, ds⟩ W) :
    ∀ n listed l W, I n listed l W → wpAnyH P md ops Q S (n + k) listed ⟨l.toArray, ds⟩ W
  | 0, listed, l, W, h => by rw [Nat.zero_add]; exact fin listed l W h
  | n + 1, listed, l, W, h => by
    obtain ⟨rs, hr, hne, hs⟩ := step n listed l W h
    rw [show n + 1 + k = (n + k) + 1 by omega]
    exact wpAnyH_all hr hne (fun i hi => hs i hi _ (fun l' W' hS hI => ⟨hS, region_by I step fin n _ l' W' hI⟩))
/-- Rows of different things lie in different blocks. -/
theorem FOwn.apart {X Y : Type} {e1 : X → List Value} {e2 : Y → List Value} {n1 n2 : Nat} {T1 T2 : TypeId} {b1 b2 : Nat} {w : World} {v1 v2 : Value} {L1 : List X} {L2 : List Y} (h1 : FOwn e1 n1 T1 b1 w v1 L1) (h2 : FOwn e2 n2 T2 b2 w v2 L2) (hT : T1 ≠ T2) {g : Nat} (e : v1.ownBlock = some g) : v2.ownBlock ≠ some g := by
  intro e2'
  rcases h1.2 with ⟨q, _⟩ | ⟨g1, c1, u1, q1, _, o1, _⟩
  · rw [q] at e; cases e
  · rcases h2.2 with ⟨q, _⟩ | ⟨g2, c2, u2, q2, _, o2, _⟩
    · rw [q] at e2'; cases e2'
    · rw [q1] at e
      rw [q2] at e2'
      cases e
      cases e2'
      rw [o1] at o2
      simp only [Option.some.injEq, Obj.cells.injEq] at o2
      exact hT o2.2.1

end Go.Proofs.YtnpiljegdiconaaGreat
namespace Go.Proofs.YtnpiljegdiconaaGreat
open Go.ChangeShapes Go.WideShapes Go.ChangeAt Go.RowKit
open Go.ChangeMaps (open_string shut_string)
set_option linter.unusedVariables false
set_option maxRecDepth 100000

theorem numFitsI (n : Int) (w : World) : Calls Tryz.prog 72 #[.int .i64 n] w fun e w' => e = .returned (.bool (numB n)) ∧ w' = w := by
  obtain ⟨R, hR⟩ : ∃ R, R = numB n := ⟨_, rfl⟩
  rw [← hR]
  replace hR : Hid _ := hR
  by_cases h1 : 0 ≤ n
  · have d1 : decide (0 ≤ n) = true := decide_eq_true h1
    have hN : Hid (R = decide (n ≤ 100000)) := by unfold Hid; rw [hR.out]; unfold numB; by_cases h2 : n ≤ 100000 <;> simp [h1, h2]
    clear hR
    go_enter Tryz.func72, Tryz.ntmps72
    go_wp2
    go_ret
    exact ⟨by rw [hN.out]; rfl, rfl⟩
  · have d1 : decide (0 ≤ n) = false := decide_eq_false h1
    have hN : Hid (R = false) := by unfold Hid; rw [hR.out]; unfold numB; simp [h1]
    clear hR
    go_enter Tryz.func72, Tryz.ntmps72
    go_wp2
    go_ret
    exact ⟨by rw [hN.out]; rfl, rfl⟩
set_option maxHeartbeats 1000000 in
theorem cloneK (ad : Option Addr) (cap : Nat) (L : List Ik) (w : World) (hv : FView ikEnc w ad L) (hl : L.length ≤ 1048577) :
    Calls Tryz.prog 150 #[.slice ad L.length cap] w fun e w' => ∃ ad' cap', e = .returned (.slice ad' L.length cap') ∧ FOwn ikEnc 8 105 w.heap.size w' (.slice ad' L.length cap') L ∧ Below w.heap.size w w' := by
  obtain ⟨i1, hj, hy0, hy1, hy2⟩ := info_parts ikInfo
  cases ad with
  | none =>
    obtain rfl := hv.none_nil
    have hEq : ∀ (y : World) (c : Nat), (binOp .eql 26 (.slice none 0 c) (.slice none 0 0)).run Tryz.prog y = .ok (.bool true) y := fun y c => Go.Lib.run_eql_slice_nil y 26 105 none 0 c 0 0 Tryz.underlying26
    simp only [List.length_nil]
    go_enter Tryz.func150, Tryz.ntmps150
    go_wp2
    go_ret
    exact ⟨_, _, rfl, FOwn.nil, Below.refl _ _⟩
  | some a =>
    have hB := hv.lt ikEnc_len (by omega)
    have B0 := below_new (w := w) (Obj.cells #[] 105)
    have hv1 : FView ikEnc (w.alloc (Obj.cells #[] 105)) (some a) L := hv.below B0 hB
    have hEq : ∀ (y : World), (binOp .eql 26 (.slice (some a) L.length cap) (.slice none 0 0)).run Tryz.prog y = .ok (.bool false) y := fun y => Go.Lib.run_eql_slice_nil y 26 105 (some a) L.length cap 0 0 Tryz.underlying26
    go_enter Tryz.func150, Tryz.ntmps150
    go_wp2_with (first | (at_builtin; refine fappL ikEnc_len ikEnc_ones rfl _ _ 26 rfl w.heap.size 105 i1 (.agg #[.int .i64 0, .int .i64 0, .int .i64 0, .int .i64 0, .int .i64 0, .int .i64 0, .int .i64 0, .bool false]) 64 Tryz.underlying26 hj hy0 hy1 hy2 rfl (by decide) (by decide) _ ([] : List Ik) rfl (FOwn.empty w) (some a) cap L rfl (fun e => by cases e) hv1 ?z0 ?z1 ?_) | go_in)
    case z0 => simp; omega
    case z1 => simp
    intro vZ wZ hownZ hgrowZ _
    have BZ : Below w.heap.size w wZ := B0.grown hgrowZ (by simp) (fun j e => ((FOwn.empty w : FOwn ikEnc 8 105 _ _ _ _).lt j e).1)
    replace hownZ : FOwn ikEnc 8 105 w.heap.size wZ vZ L := hownZ
    obtain ⟨adZ, capZ, rfl⟩ := hownZ.open_
    clear hgrowZ B0 hv1
    go_wp2
    go_ret
    exact ⟨_, _, rfl, hownZ, BZ⟩
set_option maxHeartbeats 1000000 in
theorem jourI (ad : Option Addr) (cap : Nat) (L : List Ik) (w : World) (hv : FView ikEnc w ad L) (hl : L.length ≤ 1048577) :
    Calls Tryz.prog 125 #[.slice ad L.length cap] w fun e w' => ∃ a c, e = .returned (.agg #[.slice a L.length c]) ∧ FOwn ikEnc 8 105 w.heap.size w' (.slice a L.length c) L ∧ Below w.heap.size w w' := by
  have hB := hv.lt ikEnc_len (by omega)
  obtain ⟨y, hy⟩ : ∃ y, y = w.alloc (Obj.cells #[.slice none 0 0] 160) := ⟨_, rfl⟩
  have B0 : Below w.heap.size w y := by rw [hy]; exact below_new _
  have c0 : y.cell? ⟨w.heap.size, 0, none⟩ = some (.slice none 0 0) := by rw [hy]; simp [go_sem]
  have f0 : y.frozen? ⟨w.heap.size, 0, none⟩ = false := by rw [hy]; simp [go_sem]
  have S0 := World.block_lt_of_cell? _ _ c0
  go_enter Tryz.func125, Tryz.ntmps125
  go_wp2_with fail
  go_at_call 150
  rw [← hy]
  clear hy
  refine (cloneK ad cap L y (hv.below B0 hB) hl).mono ?_
  rintro e w1 ⟨a1, c1, rfl, O1, k1⟩
  have B1 := B0.trans (k1.mono B0.size)
  have c0 := (World.cell?_of_block (a := ⟨w.heap.size, 0, none⟩) (k1.block _ S0)).trans c0
  have f0 := (World.frozen?_of_block (a := ⟨w.heap.size, 0, none⟩) (k1.block _ S0)).trans f0
  have hne : ∀ g, (Value.slice a1 L.length c1).ownBlock = some g → g ≠ w.heap.size := fun g e => by have := (O1.lt g e).1; omega
  have O2 : FOwn ikEnc 8 105 w.heap.size (w1.setCell ⟨w.heap.size, 0, none⟩ (.slice a1 L.length c1)) (.slice a1 L.length c1) L := (O1.base B0.size).keep fun g e => Below.heap_setCell _ _ _ _ (hne g e)
  have B2 := B1.setCell (p := ⟨w.heap.size, 0, none⟩) (Nat.le_refl _) (.slice a1 L.length c1)
  clear k1 B0 hv hB O1 B1 hne
  go_wp2
  refine bodyPost_ret (v := .agg #[.slice a1 L.length c1]) (by simp [results, Tryz.results125, go_sem, *]) rfl ⟨_, _, rfl, O2, B2⟩
set_option maxHeartbeats 2000000 in
theorem mindOf (m : Mi) (ad : Option Addr) (cap : Nat) (w : World) (hv : FView ikEnc w ad m.lg) (hl : m.lg.length ≤ 1048577) :
    Calls Tryz.prog 56 #[.agg #[.bool m.up, .int .i64 m.li, .int .i64 m.ep, .slice ad m.lg.length cap, .int .i64 m.sd, .int .i64 m.ac, .int .i64 m.al]] w fun e w' => ∃ q a c, e = .returned (.pointer (some ⟨q, 0, none⟩)) ∧ MgBox w' q m (.slice a m.lg.length c) ∧ FOwn ikEnc 8 105 w.heap.size w' (.slice a m.lg.length c) m.lg ∧ (∀ g, (Value.slice a m.lg.length c).ownBlock = some g → g < q) ∧ w.heap.size < q ∧ Below w.heap.size w w' := by
  have hB := hv.lt ikEnc_len (by omega)
  obtain ⟨y, hy⟩ : ∃ y, y = w.alloc (Obj.cells #[.bool m.up, .int .i64 m.li, .int .i64 m.ep, .slice ad m.lg.length cap, .int .i64 m.sd, .int .i64 m.ac, .int .i64 m.al] 28) := ⟨_, rfl⟩
  have B0 : Below w.heap.size w y := by rw [hy]; exact below_new _
  have A : MiAt y w.heap.size m (.slice ad m.lg.length cap) := by rw [hy]; exact MiAt.new w _ _ _
  have S0 := A.lt
  have hv1 := hv.below B0 hB
  go_enter Tryz.func56, Tryz.ntmps56
  go_upto_region 1 with fail
  rw [← hy]
  clear hy
  refine wp_region_held (S := fun Y => Below y.heap.size y Y) (by kernel_rfl) ?_
  change wpAnyH _ _ _ _ _ _ _ _ (World.drew _)
  have hb0 : Below y.heap.size y y.drew := (Below.refl _ _).drew
  obtain ⟨u0, hy0⟩ : ∃ y_, y_ = y.drew := ⟨_, rfl⟩
  rw [← hy0] at hb0 ⊢
  clear hy0
  refine takeW 0 3 (.pointer (some ⟨w.heap.size, 3, none⟩)) rfl rfl (by kernel_rfl) (by kernel_rfl) (by kernel_rfl) (fun _ _ _ h => h) (by kernel_rfl) (by (intro w hSw; go_simp)) (by assumption) ?_
  simp only [List.set_cons_zero, List.set_cons_succ]
  refine takeW 1 4 (.slice ad m.lg.length cap) rfl rfl (by kernel_rfl) (by kernel_rfl) (by kernel_rfl) (fun _ _ _ h => h) (by kernel_rfl) (by (intro Y hSw; obtain ⟨X0, X1, X2, X3, X4, X5, X6⟩ := A.below hSw (by omega); go_simp)) (by assumption) ?_
  simp only [List.set_cons_zero, List.set_cons_succ]
  refine takeW 3 6 (.pointer (some ⟨w.heap.size, 0, none⟩)) rfl rfl (by kernel_rfl) (by kernel_rfl) (by kernel_rfl) (fun _ _ _ h => h) (by kernel_rfl) (by (intro w hSw; go_simp)) (by assumption) ?_
  simp only [List.set_cons_zero, List.set_cons_succ]
  refine takeW 4 7 (.bool m.up) rfl rfl (by kernel_rfl) (by kernel_rfl) (by kernel_rfl) (fun _ _ _ h => h) (by kernel_rfl) (by (intro Y hSw; obtain ⟨X0, X1, X2, X3, X4, X5, X6⟩ := A.below hSw (by omega); go_simp)) (by assumption) ?_
  simp only [List.set_cons_zero, List.set_cons_succ]
  refine takeW 5 8 (.pointer (some ⟨w.heap.size, 1, none⟩)) rfl rfl (by kernel_rfl) (by kernel_rfl) (by kernel_rfl) (fun _ _ _ h => h) (by kernel_rfl) (by (intro w hSw; go_simp)) (by assumption) ?_
  simp only [List.set_cons_zero, List.set_cons_succ]
  refine takeW 6 9 (.int .i64 m.li) rfl rfl (by kernel_rfl) (by kernel_rfl) (by kernel_rfl) (fun _ _ _ h => h) (by kernel_rfl) (by (intro Y hSw; obtain ⟨X0, X1, X2, X3, X4, X5, X6⟩ := A.below hSw (by omega); go_simp)) (by assumption) ?_
  simp only [List.set_cons_zero, List.set_cons_succ]
  refine takeW 7 10 (.pointer (some ⟨w.heap.size, 2, none⟩)) rfl rfl (by kernel_rfl) (by kernel_rfl) (by kernel_rfl) (fun _ _ _ h => h) (by kernel_rfl) (by (intro w hSw; go_simp)) (by assumption) ?_
  simp only [List.set_cons_zero, List.set_cons_succ]
  refine takeW 8 11 (.int .i64 m.ep) rfl rfl (by kernel_rfl) (by kernel_rfl) (by kernel_rfl) (fun _ _ _ h => h) (by kernel_rfl) (by (intro Y hSw; obtain ⟨X0, X1, X2, X3, X4, X5, X6⟩ := A.below hSw (by omega); go_simp)) (by assumption) ?_
  simp only [List.set_cons_zero, List.set_cons_succ]
  refine takeW 9 12 (.pointer (some ⟨w.heap.size, 4, none⟩)) rfl rfl (by kernel_rfl) (by kernel_rfl) (by kernel_rfl) (fun _ _ _ h => h) (by kernel_rfl) (by (intro w hSw; go_simp)) (by assumption) ?_
  simp only [List.set_cons_zero, List.set_cons_succ]
  refine takeW 10 13 (.int .i64 m.sd) rfl rfl (by kernel_rfl) (by kernel_rfl) (by kernel_rfl) (fun _ _ _ h => h) (by kernel_rfl) (by (intro Y hSw; obtain ⟨X0, X1, X2, X3, X4, X5, X6⟩ := A.below hSw (by omega); go_simp)) (by assumption) ?_
  simp only [List.set_cons_zero, List.set_cons_succ]
  refine takeW 11 14 (.pointer (some ⟨w.heap.size, 5, none⟩)) rfl rfl (by kernel_rfl) (by kernel_rfl) (by kernel_rfl) (fun _ _ _ h => h) (by kernel_rfl) (by (intro w hSw; go_simp)) (by assumption) ?_
  simp only [List.set_cons_zero, List.set_cons_succ]
  refine takeW 12 15 (.int .i64 m.ac) rfl rfl (by kernel_rfl) (by kernel_rfl) (by kernel_rfl) (fun _ _ _ h => h) (by kernel_rfl) (by (intro Y hSw; obtain ⟨X0, X1, X2, X3, X4, X5, X6⟩ := A.below hSw (by omega); go_simp)) (by assumption) ?_
  simp only [List.set_cons_zero, List.set_cons_succ]
  refine takeW 13 16 (.pointer (some ⟨w.heap.size, 6, none⟩)) rfl rfl (by kernel_rfl) (by kernel_rfl) (by kernel_rfl) (fun _ _ _ h => h) (by kernel_rfl) (by (intro w hSw; go_simp)) (by assumption) ?_
  simp only [List.set_cons_zero, List.set_cons_succ]
  refine takeW 14 17 (.int .i64 m.al) rfl rfl (by kernel_rfl) (by kernel_rfl) (by kernel_rfl) (fun _ _ _ h => h) (by kernel_rfl) (by (intro Y hSw; obtain ⟨X0, X1, X2, X3, X4, X5, X6⟩ := A.below hSw (by omega); go_simp)) (by assumption) ?_
  simp only [List.set_cons_zero, List.set_cons_succ]
  refine takeW 15 18 (.agg #[.bool m.up, .int .i64 m.li, .int .i64 m.ep, .int .i64 m.sd, .int .i64 m.ac, .int .i64 m.al]) rfl rfl (by kernel_rfl) (by kernel_rfl) (by kernel_rfl) (fun _ _ _ h => h) (by kernel_rfl) (by (intro w hSw; go_simp)) (by assumption) ?_
  simp only [List.set_cons_zero, List.set_cons_succ]
  refine wpAnyH_all (rs := [2]) (by kernel_rfl) (by simp) ?_
  intro i hi; obtain rfl : i = 2 := by simpa using hi
  refine wpOp_step rfl (fun Kz hKz => ?_)
  rw [if_pos (by kernel_rfl)]
  go_simp
  go_at_call 125
  refine (jourI ad cap m.lg u0 (hv1.below hb0 (hv1.lt ikEnc_len (by omega))) hl).mono ?_
  rintro e u1 ⟨a1, c1, rfl, O1, kq⟩
  have hb1 : Below y.heap.size y u1 := hb0.trans (kq.mono hb0.size)
  clear kq
  refine hKz _ _ ⟨hb1, ?_⟩
  clear hKz Kz hi
  refine takeW 16 19 (.agg #[.slice a1 m.lg.length c1, .bool m.up, .int .i64 m.li, .int .i64 m.ep, .int .i64 m.sd, .int .i64 m.ac, .int .i64 m.al]) rfl rfl (by kernel_rfl) (by kernel_rfl) (by kernel_rfl) (fun _ _ _ h => h) (by kernel_rfl) (by (intro w hSw; go_simp)) (by assumption) ?_
  simp only [List.set_cons_zero, List.set_cons_succ]
  refine wpAnyH_all (rs := [17]) (by kernel_rfl) (by simp) ?_
  intro i hi; obtain rfl : i = 17 := by simpa using hi
  refine wpOp_step rfl (fun Kz hKz => ?_)
  rw [if_pos (by kernel_rfl)]
  go_simp
  obtain ⟨u2, hu⟩ : ∃ u, u = u1.alloc (Obj.cells #[.slice a1 m.lg.length c1, .bool m.up, .int .i64 m.li, .int .i64 m.ep, .int .i64 m.sd, .int .i64 m.ac, .int .i64 m.al] 165) := ⟨_, rfl⟩
  have kq : Below u1.heap.size u1 u2 := by rw [hu]; exact below_new _
  have M2 : MgBox u2 u1.heap.size m (.slice a1 m.lg.length c1) := by rw [hu]; exact MgBox.new u1 _ _ _
  have hb2 : Below y.heap.size y u2 := hb1.trans (kq.mono hb1.size)
  have O2 := O1.later kq
  have lo := O1.lt
  have hb1s := hb1.size
  obtain ⟨q, hq⟩ : ∃ q, q = u1.heap.size := ⟨_, rfl⟩
  rw [← hq] at M2 lo hb1s ⊢
  rw [← hu]
  clear hu kq hq
  refine hKz _ _ ⟨hb2, ?_⟩
  clear hKz Kz hi
  refine takeW 18 2 (.pointer (some ⟨q, 0, none⟩)) rfl rfl (by kernel_rfl) (by kernel_rfl) (by kernel_rfl) (fun _ _ _ h => h) (by kernel_rfl) (by (intro w hSw; go_simp)) (by assumption) ?_
  simp only [List.set_cons_zero, List.set_cons_succ]
  refine wpAnyH_done (by kernel_rfl) ?_ _
  have hO := O1.lt
  go_wp2
  go_ret
  exact ⟨q, a1, c1, rfl, M2, O2.base (Nat.le_trans B0.size hb0.size), fun g e => (lo g e).2, by omega, B0.trans (hb2.mono B0.size)⟩

end Go.Proofs.YtnpiljegdiconaaGreat
namespace Go.Proofs.YtnpiljegdiconaaGreat
open Go.ChangeShapes Go.WideShapes Go.ChangeAt Go.RowKit
open Go.ChangeMaps (open_string shut_string)
set_option linter.unusedVariables false
set_option maxRecDepth 100000

theorem MiBox.put {w : World} {q : Nat} {m : Mi} {v : Value} (h : MiBox w q m v) (m' : Mi) (v' : Value) : MiBox (((((((w.setCell ⟨q, 0, none⟩ (.bool m'.up)).setCell ⟨q, 1, none⟩ (.int .i64 m'.li)).setCell ⟨q, 2, none⟩ (.int .i64 m'.ep)).setCell ⟨q, 3, none⟩ (v')).setCell ⟨q, 4, none⟩ (.int .i64 m'.sd)).setCell ⟨q, 5, none⟩ (.int .i64 m'.ac)).setCell ⟨q, 6, none⟩ (.int .i64 m'.al)) q m' v' := by
  obtain ⟨h0, h1, h2, h3, h4, h5, h6, hf⟩ := h
  have h0 : (w.setCell ⟨q, 0, none⟩ (.bool m'.up)).cell? ⟨q, 0, none⟩ = some (.bool m'.up) := pset_same h0
  have h1 : (w.setCell ⟨q, 0, none⟩ (.bool m'.up)).cell? ⟨q, 1, none⟩ = _ := (pset_else (by decide)).trans h1
  have h2 : (w.setCell ⟨q, 0, none⟩ (.bool m'.up)).cell? ⟨q, 2, none⟩ = _ := (pset_else (by decide)).trans h2
  have h3 : (w.setCell ⟨q, 0, none⟩ (.bool m'.up)).cell? ⟨q, 3, none⟩ = _ := (pset_else (by decide)).trans h3
  have h4 : (w.setCell ⟨q, 0, none⟩ (.bool m'.up)).cell? ⟨q, 4, none⟩ = _ := (pset_else (by decide)).trans h4
  have h5 : (w.setCell ⟨q, 0, none⟩ (.bool m'.up)).cell? ⟨q, 5, none⟩ = _ := (pset_else (by decide)).trans h5
  have h6 : (w.setCell ⟨q, 0, none⟩ (.bool m'.up)).cell? ⟨q, 6, none⟩ = _ := (pset_else (by decide)).trans h6
  have h0 : ((w.setCell ⟨q, 0, none⟩ (.bool m'.up)).setCell ⟨q, 1, none⟩ (.int .i64 m'.li)).cell? ⟨q, 0, none⟩ = _ := (pset_else (by decide)).trans h0
  have h1 : ((w.setCell ⟨q, 0, none⟩ (.bool m'.up)).setCell ⟨q, 1, none⟩ (.int .i64 m'.li)).cell? ⟨q, 1, none⟩ = some (.int .i64 m'.li) := pset_same h1
  have h2 : ((w.setCell ⟨q, 0, none⟩ (.bool m'.up)).setCell ⟨q, 1, none⟩ (.int .i64 m'.li)).cell? ⟨q, 2, none⟩ = _ := (pset_else (by decide)).trans h2
  have h3 : ((w.setCell ⟨q, 0, none⟩ (.bool m'.up)).setCell ⟨q, 1, none⟩ (.int .i64 m'.li)).cell? ⟨q, 3, none⟩ = _ := (pset_else (by decide)).trans h3
  have h4 : ((w.setCell ⟨q, 0, none⟩ (.bool m'.up)).setCell ⟨q, 1, none⟩ (.int .i64 m'.li)).cell? ⟨q, 4, none⟩ = _ := (pset_else (by decide)).trans h4
  have h5 : ((w.setCell ⟨q, 0, none⟩ (.bool m'.up)).setCell ⟨q, 1, none⟩ (.int .i64 m'.li)).cell? ⟨q, 5, none⟩ = _ := (pset_else (by decide)).trans h5
  have h6 : ((w.setCell ⟨q, 0, none⟩ (.bool m'.up)).setCell ⟨q, 1, none⟩ (.int .i64 m'.li)).cell? ⟨q, 6, none⟩ = _ := (pset_else (by decide)).trans h6
  have h0 : (((w.setCell ⟨q, 0, none⟩ (.bool m'.up)).setCell ⟨q, 1, none⟩ (.int .i64 m'.li)).setCell ⟨q, 2, none⟩ (.int .i64 m'.ep)).cell? ⟨q, 0, none⟩ = _ := (pset_else (by decide)).trans h0
  have h1 : (((w.setCell ⟨q, 0, none⟩ (.bool m'.up)).setCell ⟨q, 1, none⟩ (.int .i64 m'.li)).setCell ⟨q, 2, none⟩ (.int .i64 m'.ep)).cell? ⟨q, 1, none⟩ = _ := (pset_else (by decide)).trans h1
  have h2 : (((w.setCell ⟨q, 0, none⟩ (.bool m'.up)).setCell ⟨q, 1, none⟩ (.int .i64 m'.li)).setCell ⟨q, 2, none⟩ (.int .i64 m'.ep)).cell? ⟨q, 2, none⟩ = some (.int .i64 m'.ep) := pset_same h2
  have h3 : (((w.setCell ⟨q, 0, none⟩ (.bool m'.up)).setCell ⟨q, 1, none⟩ (.int .i64 m'.li)).setCell ⟨q, 2, none⟩ (.int .i64 m'.ep)).cell? ⟨q, 3, none⟩ = _ := (pset_else (by decide)).trans h3
  have h4 : (((w.setCell ⟨q, 0, none⟩ (.bool m'.up)).setCell ⟨q, 1, none⟩ (.int .i64 m'.li)).setCell ⟨q, 2, none⟩ (.int .i64 m'.ep)).cell? ⟨q, 4, none⟩ = _ := (pset_else (by decide)).trans h4
  have h5 : (((w.setCell ⟨q, 0, none⟩ (.bool m'.up)).setCell ⟨q, 1, none⟩ (.int .i64 m'.li)).setCell ⟨q, 2, none⟩ (.int .i64 m'.ep)).cell? ⟨q, 5, none⟩ = _ := (pset_else (by decide)).trans h5
  have h6 : (((w.setCell ⟨q, 0, none⟩ (.bool m'.up)).setCell ⟨q, 1, none⟩ (.int .i64 m'.li)).setCell ⟨q, 2, none⟩ (.int .i64 m'.ep)).cell? ⟨q, 6, none⟩ = _ := (pset_else (by decide)).trans h6
  have h0 : ((((w.setCell ⟨q, 0, none⟩ (.bool m'.up)).setCell ⟨q, 1, none⟩ (.int .i64 m'.li)).setCell ⟨q, 2, none⟩ (.int .i64 m'.ep)).setCell ⟨q, 3, none⟩ (v')).cell? ⟨q, 0, none⟩ = _ := (pset_else (by decide)).trans h0
  have h1 : ((((w.setCell ⟨q, 0, none⟩ (.bool m'.up)).setCell ⟨q, 1, none⟩ (.int .i64 m'.li)).setCell ⟨q, 2, none⟩ (.int .i64 m'.ep)).setCell ⟨q, 3, none⟩ (v')).cell? ⟨q, 1, none⟩ = _ := (pset_else (by decide)).trans h1
  have h2 : ((((w.setCell ⟨q, 0, none⟩ (.bool m'.up)).setCell ⟨q, 1, none⟩ (.int .i64 m'.li)).setCell ⟨q, 2, none⟩ (.int .i64 m'.ep)).setCell ⟨q, 3, none⟩ (v')).cell? ⟨q, 2, none⟩ = _ := (pset_else (by decide)).trans h2
  have h3 : ((((w.setCell ⟨q, 0, none⟩ (.bool m'.up)).setCell ⟨q, 1, none⟩ (.int .i64 m'.li)).setCell ⟨q, 2, none⟩ (.int .i64 m'.ep)).setCell ⟨q, 3, none⟩ (v')).cell? ⟨q, 3, none⟩ = some (v') := pset_same h3
  have h4 : ((((w.setCell ⟨q, 0, none⟩ (.bool m'.up)).setCell ⟨q, 1, none⟩ (.int .i64 m'.li)).setCell ⟨q, 2, none⟩ (.int .i64 m'.ep)).setCell ⟨q, 3, none⟩ (v')).cell? ⟨q, 4, none⟩ = _ := (pset_else (by decide)).trans h4
  have h5 : ((((w.setCell ⟨q, 0, none⟩ (.bool m'.up)).setCell ⟨q, 1, none⟩ (.int .i64 m'.li)).setCell ⟨q, 2, none⟩ (.int .i64 m'.ep)).setCell ⟨q, 3, none⟩ (v')).cell? ⟨q, 5, none⟩ = _ := (pset_else (by decide)).trans h5
  have h6 : ((((w.setCell ⟨q, 0, none⟩ (.bool m'.up)).setCell ⟨q, 1, none⟩ (.int .i64 m'.li)).setCell ⟨q, 2, none⟩ (.int .i64 m'.ep)).setCell ⟨q, 3, none⟩ (v')).cell? ⟨q, 6, none⟩ = _ := (pset_else (by decide)).trans h6
  have h0 : (((((w.setCell ⟨q, 0, none⟩ (.bool m'.up)).setCell ⟨q, 1, none⟩ (.int .i64 m'.li)).setCell ⟨q, 2, none⟩ (.int .i64 m'.ep)).setCell ⟨q, 3, none⟩ (v')).setCell ⟨q, 4, none⟩ (.int .i64 m'.sd)).cell? ⟨q, 0, none⟩ = _ := (pset_else (by decide)).trans h0
  have h1 : (((((w.setCell ⟨q, 0, none⟩ (.bool m'.up)).setCell ⟨q, 1, none⟩ (.int .i64 m'.li)).setCell ⟨q, 2, none⟩ (.int .i64 m'.ep)).setCell ⟨q, 3, none⟩ (v')).setCell ⟨q, 4, none⟩ (.int .i64 m'.sd)).cell? ⟨q, 1, none⟩ = _ := (pset_else (by decide)).trans h1
  have h2 : (((((w.setCell ⟨q, 0, none⟩ (.bool m'.up)).setCell ⟨q, 1, none⟩ (.int .i64 m'.li)).setCell ⟨q, 2, none⟩ (.int .i64 m'.ep)).setCell ⟨q, 3, none⟩ (v')).setCell ⟨q, 4, none⟩ (.int .i64 m'.sd)).cell? ⟨q, 2, none⟩ = _ := (pset_else (by decide)).trans h2
  have h3 : (((((w.setCell ⟨q, 0, none⟩ (.bool m'.up)).setCell ⟨q, 1, none⟩ (.int .i64 m'.li)).setCell ⟨q, 2, none⟩ (.int .i64 m'.ep)).setCell ⟨q, 3, none⟩ (v')).setCell ⟨q, 4, none⟩ (.int .i64 m'.sd)).cell? ⟨q, 3, none⟩ = _ := (pset_else (by decide)).trans h3
  have h4 : (((((w.setCell ⟨q, 0, none⟩ (.bool m'.up)).setCell ⟨q, 1, none⟩ (.int .i64 m'.li)).setCell ⟨q, 2, none⟩ (.int .i64 m'.ep)).setCell ⟨q, 3, none⟩ (v')).setCell ⟨q, 4, none⟩ (.int .i64 m'.sd)).cell? ⟨q, 4, none⟩ = some (.int .i64 m'.sd) := pset_same h4
  have h5 : (((((w.setCell ⟨q, 0, none⟩ (.bool m'.up)).setCell ⟨q, 1, none⟩ (.int .i64 m'.li)).setCell ⟨q, 2, none⟩ (.int .i64 m'.ep)).setCell ⟨q, 3, none⟩ (v')).setCell ⟨q, 4, none⟩ (.int .i64 m'.sd)).cell? ⟨q, 5, none⟩ = _ := (pset_else (by decide)).trans h5
  have h6 : (((((w.setCell ⟨q, 0, none⟩ (.bool m'.up)).setCell ⟨q, 1, none⟩ (.int .i64 m'.li)).setCell ⟨q, 2, none⟩ (.int .i64 m'.ep)).setCell ⟨q, 3, none⟩ (v')).setCell ⟨q, 4, none⟩ (.int .i64 m'.sd)).cell? ⟨q, 6, none⟩ = _ := (pset_else (by decide)).trans h6
  have h0 : ((((((w.setCell ⟨q, 0, none⟩ (.bool m'.up)).setCell ⟨q, 1, none⟩ (.int .i64 m'.li)).setCell ⟨q, 2, none⟩ (.int .i64 m'.ep)).setCell ⟨q, 3, none⟩ (v')).setCell ⟨q, 4, none⟩ (.int .i64 m'.sd)).setCell ⟨q, 5, none⟩ (.int .i64 m'.ac)).cell? ⟨q, 0, none⟩ = _ := (pset_else (by decide)).trans h0
  have h1 : ((((((w.setCell ⟨q, 0, none⟩ (.bool m'.up)).setCell ⟨q, 1, none⟩ (.int .i64 m'.li)).setCell ⟨q, 2, none⟩ (.int .i64 m'.ep)).setCell ⟨q, 3, none⟩ (v')).setCell ⟨q, 4, none⟩ (.int .i64 m'.sd)).setCell ⟨q, 5, none⟩ (.int .i64 m'.ac)).cell? ⟨q, 1, none⟩ = _ := (pset_else (by decide)).trans h1
  have h2 : ((((((w.setCell ⟨q, 0, none⟩ (.bool m'.up)).setCell ⟨q, 1, none⟩ (.int .i64 m'.li)).setCell ⟨q, 2, none⟩ (.int .i64 m'.ep)).setCell ⟨q, 3, none⟩ (v')).setCell ⟨q, 4, none⟩ (.int .i64 m'.sd)).setCell ⟨q, 5, none⟩ (.int .i64 m'.ac)).cell? ⟨q, 2, none⟩ = _ := (pset_else (by decide)).trans h2
  have h3 : ((((((w.setCell ⟨q, 0, none⟩ (.bool m'.up)).setCell ⟨q, 1, none⟩ (.int .i64 m'.li)).setCell ⟨q, 2, none⟩ (.int .i64 m'.ep)).setCell ⟨q, 3, none⟩ (v')).setCell ⟨q, 4, none⟩ (.int .i64 m'.sd)).setCell ⟨q, 5, none⟩ (.int .i64 m'.ac)).cell? ⟨q, 3, none⟩ = _ := (pset_else (by decide)).trans h3
  have h4 : ((((((w.setCell ⟨q, 0, none⟩ (.bool m'.up)).setCell ⟨q, 1, none⟩ (.int .i64 m'.li)).setCell ⟨q, 2, none⟩ (.int .i64 m'.ep)).setCell ⟨q, 3, none⟩ (v')).setCell ⟨q, 4, none⟩ (.int .i64 m'.sd)).setCell ⟨q, 5, none⟩ (.int .i64 m'.ac)).cell? ⟨q, 4, none⟩ = _ := (pset_else (by decide)).trans h4
  have h5 : ((((((w.setCell ⟨q, 0, none⟩ (.bool m'.up)).setCell ⟨q, 1, none⟩ (.int .i64 m'.li)).setCell ⟨q, 2, none⟩ (.int .i64 m'.ep)).setCell ⟨q, 3, none⟩ (v')).setCell ⟨q, 4, none⟩ (.int .i64 m'.sd)).setCell ⟨q, 5, none⟩ (.int .i64 m'.ac)).cell? ⟨q, 5, none⟩ = some (.int .i64 m'.ac) := pset_same h5
  have h6 : ((((((w.setCell ⟨q, 0, none⟩ (.bool m'.up)).setCell ⟨q, 1, none⟩ (.int .i64 m'.li)).setCell ⟨q, 2, none⟩ (.int .i64 m'.ep)).setCell ⟨q, 3, none⟩ (v')).setCell ⟨q, 4, none⟩ (.int .i64 m'.sd)).setCell ⟨q, 5, none⟩ (.int .i64 m'.ac)).cell? ⟨q, 6, none⟩ = _ := (pset_else (by decide)).trans h6
  have h0 : (((((((w.setCell ⟨q, 0, none⟩ (.bool m'.up)).setCell ⟨q, 1, none⟩ (.int .i64 m'.li)).setCell ⟨q, 2, none⟩ (.int .i64 m'.ep)).setCell ⟨q, 3, none⟩ (v')).setCell ⟨q, 4, none⟩ (.int .i64 m'.sd)).setCell ⟨q, 5, none⟩ (.int .i64 m'.ac)).setCell ⟨q, 6, none⟩ (.int .i64 m'.al)).cell? ⟨q, 0, none⟩ = _ := (pset_else (by decide)).trans h0
  have h1 : (((((((w.setCell ⟨q, 0, none⟩ (.bool m'.up)).setCell ⟨q, 1, none⟩ (.int .i64 m'.li)).setCell ⟨q, 2, none⟩ (.int .i64 m'.ep)).setCell ⟨q, 3, none⟩ (v')).setCell ⟨q, 4, none⟩ (.int .i64 m'.sd)).setCell ⟨q, 5, none⟩ (.int .i64 m'.ac)).setCell ⟨q, 6, none⟩ (.int .i64 m'.al)).cell? ⟨q, 1, none⟩ = _ := (pset_else (by decide)).trans h1
  have h2 : (((((((w.setCell ⟨q, 0, none⟩ (.bool m'.up)).setCell ⟨q, 1, none⟩ (.int .i64 m'.li)).setCell ⟨q, 2, none⟩ (.int .i64 m'.ep)).setCell ⟨q, 3, none⟩ (v')).setCell ⟨q, 4, none⟩ (.int .i64 m'.sd)).setCell ⟨q, 5, none⟩ (.int .i64 m'.ac)).setCell ⟨q, 6, none⟩ (.int .i64 m'.al)).cell? ⟨q, 2, none⟩ = _ := (pset_else (by decide)).trans h2
  have h3 : (((((((w.setCell ⟨q, 0, none⟩ (.bool m'.up)).setCell ⟨q, 1, none⟩ (.int .i64 m'.li)).setCell ⟨q, 2, none⟩ (.int .i64 m'.ep)).setCell ⟨q, 3, none⟩ (v')).setCell ⟨q, 4, none⟩ (.int .i64 m'.sd)).setCell ⟨q, 5, none⟩ (.int .i64 m'.ac)).setCell ⟨q, 6, none⟩ (.int .i64 m'.al)).cell? ⟨q, 3, none⟩ = _ := (pset_else (by decide)).trans h3
  have h4 : (((((((w.setCell ⟨q, 0, none⟩ (.bool m'.up)).setCell ⟨q, 1, none⟩ (.int .i64 m'.li)).setCell ⟨q, 2, none⟩ (.int .i64 m'.ep)).setCell ⟨q, 3, none⟩ (v')).setCell ⟨q, 4, none⟩ (.int .i64 m'.sd)).setCell ⟨q, 5, none⟩ (.int .i64 m'.ac)).setCell ⟨q, 6, none⟩ (.int .i64 m'.al)).cell? ⟨q, 4, none⟩ = _ := (pset_else (by decide)).trans h4
  have h5 : (((((((w.setCell ⟨q, 0, none⟩ (.bool m'.up)).setCell ⟨q, 1, none⟩ (.int .i64 m'.li)).setCell ⟨q, 2, none⟩ (.int .i64 m'.ep)).setCell ⟨q, 3, none⟩ (v')).setCell ⟨q, 4, none⟩ (.int .i64 m'.sd)).setCell ⟨q, 5, none⟩ (.int .i64 m'.ac)).setCell ⟨q, 6, none⟩ (.int .i64 m'.al)).cell? ⟨q, 5, none⟩ = _ := (pset_else (by decide)).trans h5
  have h6 : (((((((w.setCell ⟨q, 0, none⟩ (.bool m'.up)).setCell ⟨q, 1, none⟩ (.int .i64 m'.li)).setCell ⟨q, 2, none⟩ (.int .i64 m'.ep)).setCell ⟨q, 3, none⟩ (v')).setCell ⟨q, 4, none⟩ (.int .i64 m'.sd)).setCell ⟨q, 5, none⟩ (.int .i64 m'.ac)).setCell ⟨q, 6, none⟩ (.int .i64 m'.al)).cell? ⟨q, 6, none⟩ = some (.int .i64 m'.al) := pset_same h6
  refine ⟨h0, h1, h2, h3, h4, h5, h6, fun i => ?_⟩
  rw [World.frozen?_setCell, World.frozen?_setCell, World.frozen?_setCell, World.frozen?_setCell, World.frozen?_setCell, World.frozen?_setCell, World.frozen?_setCell]
  exact hf i
theorem heap_put7 (w : World) (q k : Nat) (m' : Mi) (v' : Value) (h : k ≠ q) : ((((((((w.setCell ⟨q, 0, none⟩ (.bool m'.up)).setCell ⟨q, 1, none⟩ (.int .i64 m'.li)).setCell ⟨q, 2, none⟩ (.int .i64 m'.ep)).setCell ⟨q, 3, none⟩ (v')).setCell ⟨q, 4, none⟩ (.int .i64 m'.sd)).setCell ⟨q, 5, none⟩ (.int .i64 m'.ac)).setCell ⟨q, 6, none⟩ (.int .i64 m'.al))).heap[k]? = w.heap[k]? := by
  rw [Below.heap_setCell _ _ _ _ h, Below.heap_setCell _ _ _ _ h, Below.heap_setCell _ _ _ _ h, Below.heap_setCell _ _ _ _ h, Below.heap_setCell _ _ _ _ h, Below.heap_setCell _ _ _ _ h, Below.heap_setCell _ _ _ _ h]
theorem below_put7 {a w : World} {q n : Nat} (m' : Mi) (v' : Value) (h : Below n a w) (hq : n ≤ q) : Below n a (((((((w.setCell ⟨q, 0, none⟩ (.bool m'.up)).setCell ⟨q, 1, none⟩ (.int .i64 m'.li)).setCell ⟨q, 2, none⟩ (.int .i64 m'.ep)).setCell ⟨q, 3, none⟩ (v')).setCell ⟨q, 4, none⟩ (.int .i64 m'.sd)).setCell ⟨q, 5, none⟩ (.int .i64 m'.ac)).setCell ⟨q, 6, none⟩ (.int .i64 m'.al)) := (((((((h.setCell (p := ⟨q, 0, none⟩) hq _).setCell (p := ⟨q, 1, none⟩) hq _).setCell (p := ⟨q, 2, none⟩) hq _).setCell (p := ⟨q, 3, none⟩) hq _).setCell (p := ⟨q, 4, none⟩) hq _).setCell (p := ⟨q, 5, none⟩) hq _).setCell (p := ⟨q, 6, none⟩) hq _)
set_option maxHeartbeats 4000000 in
theorem miCop (m : Mi) (ad : Option Addr) (cap : Nat) (w : World) (hv : FView ikEnc w ad m.lg) (hl : m.lg.length ≤ 1048577) (hn : ad = none → cap = 0) :
    Calls Tryz.prog 63 #[.agg #[.bool m.up, .int .i64 m.li, .int .i64 m.ep, .slice ad m.lg.length cap, .int .i64 m.sd, .int .i64 m.ac, .int .i64 m.al]] w fun e w' => ∃ a c, e = .returned (.agg #[.bool m.up, .int .i64 m.li, .int .i64 m.ep, .slice a m.lg.length c, .int .i64 m.sd, .int .i64 m.ac, .int .i64 m.al]) ∧ FOwn ikEnc 8 105 w.heap.size w' (.slice a m.lg.length c) m.lg ∧ Below w.heap.size w w' := by
  have hB := hv.lt ikEnc_len (by omega)
  obtain ⟨y, hy⟩ : ∃ y, y = (w.alloc (Obj.cells #[.bool m.up, .int .i64 m.li, .int .i64 m.ep, .slice ad m.lg.length cap, .int .i64 m.sd, .int .i64 m.ac, .int .i64 m.al] 28)).alloc (Obj.cells #[.bool false, .int .i64 0, .int .i64 0, .slice none 0 0, .int .i64 0, .int .i64 0, .int .i64 0] 28) := ⟨_, rfl⟩
  have B0 : Below w.heap.size w y := by rw [hy]; exact ((Below.refl _ _).alloc (Nat.le_refl _) _).alloc (by simp) _
  have A0 : MiBox y w.heap.size m (.slice ad m.lg.length cap) := by rw [hy]; constructor <;> simp [go_sem]
  have A1 : MiBox y (w.heap.size + 1) ⟨false, 0, 0, [], 0, 0, 0⟩ (.slice none 0 0) := by rw [hy]; constructor <;> simp [go_sem]
  have S0 := A1.lt
  have hv1 := hv.below B0 hB
  have hB1 := hv1.lt ikEnc_len (by omega)
  obtain ⟨i1, hj, hy0, hy1, hy2⟩ := info_parts ikInfo
  have kx : Below y.heap.size y (y.alloc (Obj.cells #[] 105)) := below_new _
  have hv2 := hv1.below kx hB1
  have oE : FOwn ikEnc 8 105 y.heap.size (y.alloc (Obj.cells #[] 105)) (.slice (some ⟨y.heap.size, 0, none⟩) 0 0) ([] : List Ik) := FOwn.empty y
  have A0x := A0.below kx A0.lt
  have A1x := A1.below kx A1.lt
  go_enter Tryz.func63, Tryz.ntmps63
  go_upto_region 1 with fail
  rw [← hy]
  clear hy
  have cc := A0x
  obtain ⟨x0, x1, x2, x3, x4, x5, x6, xf⟩ := cc
  go_wp2_with (first | (at_builtin; refine fappL ikEnc_len ikEnc_ones rfl _ _ 26 rfl y.heap.size 105 i1 (.agg #[.int .i64 0, .int .i64 0, .int .i64 0, .int .i64 0, .int .i64 0, .int .i64 0, .int .i64 0, .bool false]) 64 Tryz.underlying26 hj hy0 hy1 hy2 rfl (by decide) (by decide) _ ([] : List Ik) rfl oE ad cap m.lg rfl hn hv2 ?z0 ?z1 ?_) | go_in)
  case z0 => simp; omega
  case z1 => simp
  intro vZ w1 hownZ hgrowZ _
  have bZ : Below y.heap.size y w1 := kx.grown hgrowZ (by simp) (fun j e => (oE.lt j e).1)
  replace hownZ : FOwn ikEnc 8 105 y.heap.size w1 vZ m.lg := hownZ
  obtain ⟨a1, c1, rfl⟩ := hownZ.open_
  clear hgrowZ x0 x1 x2 x3 x4 x5 x6 xf A0x A1x hv2 kx oE
  have A0 := A0.below bZ A0.lt
  have A1 := A1.below bZ A1.lt
  have A2 := A0.log (.slice a1 m.lg.length c1)
  have A3 := A1.keep (w' := w1.setCell ⟨w.heap.size, 3, none⟩ (.slice a1 m.lg.length c1)) (Below.heap_setCell _ _ _ _ (by show w.heap.size + 1 ≠ w.heap.size; omega))
  have lo := hownZ.lt
  have O2 : FOwn ikEnc 8 105 y.heap.size (w1.setCell ⟨w.heap.size, 3, none⟩ (.slice a1 m.lg.length c1)) (.slice a1 m.lg.length c1) m.lg := hownZ.keep (fun g e => Below.heap_setCell _ _ _ _ (by have := lo g e; show g ≠ w.heap.size; omega))
  have B2 : Below w.heap.size w (w1.setCell ⟨w.heap.size, 3, none⟩ (.slice a1 m.lg.length c1)) := (B0.trans (bZ.mono B0.size)).setCell (p := ⟨w.heap.size, 3, none⟩) (Nat.le_refl _) _
  clear bZ B0 hownZ hv1 hB1 hv hB
  have x3 := A0.c3
  have xf := A0.fr 3
  clear A0 A1
  go_upto_region 2 with fail
  obtain ⟨w2, hw2⟩ : ∃ w2, w2 = w1.setCell ⟨w.heap.size, 3, none⟩ (.slice a1 m.lg.length c1) := ⟨_, rfl⟩
  rw [← hw2] at A2 A3 O2 B2 ⊢
  clear hw2 x3 xf
  have B4 := below_put7 (q := w.heap.size + 1) m (.slice a1 m.lg.length c1) B2 (by omega)
  have O4 := (O2.base (base' := w.heap.size) (by omega)).keep (fun g e => heap_put7 w2 (w.heap.size + 1) g m (.slice a1 m.lg.length c1) (by have := (O2.lt g e).1; omega))
  clear B2 O2 lo
  obtain ⟨x0, x1, x2, x3, x4, x5, x6, xf⟩ := A2
  obtain ⟨z0, z1, z2, z3, z4, z5, z6, zf⟩ := A3
  have g0 := zf 0
  have g1 := zf 1
  have g2 := zf 2
  have g3 := zf 3
  have g4 := zf 4
  have g5 := zf 5
  have g6 := zf 6
  clear xf zf
  go_wp2
  refine bodyPost_ret (v := .agg #[.bool m.up, .int .i64 m.li, .int .i64 m.ep, .slice a1 m.lg.length c1, .int .i64 m.sd, .int .i64 m.ac, .int .i64 m.al]) (by simp [results, Tryz.results63, go_sem, *]) rfl ⟨a1, c1, rfl, O4, B4⟩

end Go.Proofs.YtnpiljegdiconaaGreat
namespace Go.Proofs.YtnpiljegdiconaaGreat
open Go.ChangeShapes Go.WideShapes Go.ChangeAt Go.RowKit
open Go.ChangeMaps (open_string shut_string)
set_option linter.unusedVariables false
set_option maxRecDepth 100000

theorem wiInfo : (Tryz.prog.info? 112).map (fun i => (i.zero, i.size, i.bytes)) = some (some (.agg #[.int .i64 0, .bool false, .int .i64 0, .int .i64 0, .int .i64 0, .int .i64 0, .int .i64 0, .int .i64 0, .int .i64 0, .int .i64 0, .int .i64 0, .bool false]), 12, 96) := by kernel_rfl
/-- How far a list is copied. -/
def LS {X : Type} (enc : X → List Value) (n : Nat) (T : TypeId) (base : Nat) (W : World) (b a : Bool) (v v' : Value) (L : List X) : Prop :=
  (b = false ∧ a = false ∧ v = undef ∧ v' = undef) ∨ (b = true ∧ a = false ∧ v' = undef ∧ FOwn enc n T base W v ([] : List X)) ∨ (b = true ∧ a = true ∧ FOwn enc n T base W v' L)
theorem LS.keep {X : Type} {enc : X → List Value} {n : Nat} {T : TypeId} {base : Nat} {W W' : World} {b a : Bool} {v v' : Value} {L : List X} (h : LS enc n T base W b a v v' L) (k : ∀ (u : Value) (M : List X), FOwn enc n T base W u M → ∀ g, u.ownBlock = some g → W'.heap[g]? = W.heap[g]?) : LS enc n T base W' b a v v' L := by
  rcases h with h | ⟨h1, h2, h3, h4⟩ | ⟨h1, h2, h3⟩
  · exact .inl h
  · exact .inr (.inl ⟨h1, h2, h3, h4.keep (k _ _ h4)⟩)
  · exact .inr (.inr ⟨h1, h2, h3.keep (k _ _ h3)⟩)
theorem LS.alloc {X : Type} {enc : X → List Value} {n : Nat} {T : TypeId} {base : Nat} {W : World} {b a : Bool} {v v' : Value} {L : List X} (h : LS enc n T base W b a v v' L) (ob : Obj) : LS enc n T base (W.alloc ob) b a v v' L :=
  h.keep (fun u M ho g e => Below.heap_alloc W ob g (ho.lt g e).2)
def ZBx (W : World) (q : Nat) : Prop := W.heap[q]? = some (Obj.cells #[.int .i64 0, .int .i64 0, .int .i64 0, .int .i64 0, .int .i64 0, .slice none 0 0, .slice none 0 0, .slice none 0 0, .slice none 0 0, .slice none 0 0] 48)
def cpL (b1 a1 b2 a2 b3 a3 b4 a4 al c : Bool) : Array Bool := #[true, true, true, true, true, true, b1, true, true, a1, b2, true, true, a2, b3, true, true, a3, b4, true, true, a4, c, al, false]
def cpN (b1 a1 b2 a2 b3 a3 b4 a4 al c : Bool) : Nat := (!b1).toNat + (!a1).toNat + (!b2).toNat + (!a2).toNat + (!b3).toNat + (!a3).toNat + (!b4).toNat + (!a4).toNat + (!al).toNat + (!c).toNat
def cpR (b1 a1 b2 a2 b3 a3 b4 a4 al c : Bool) : List Nat := (if b1 then [] else [6]) ++ (if b1 && !a1 then [9] else []) ++ (if b2 then [] else [10]) ++ (if b2 && a1 && !a2 then [13] else []) ++ (if b3 then [] else [14]) ++ (if b3 && a2 && !a3 then [17] else []) ++ (if b4 then [] else [18]) ++ (if b4 && a3 && !a4 then [21] else []) ++ (if a4 && !c then [22] else []) ++ (if al then [] else [23])
def cpF (x : BxD) (B : Nat) (v3 v11 v14 v15 v18 v19 v22 v23 v26 v27 : Value) : List Value := [.agg #[.int .i64 x.id, .int .i64 x.po, .int .i64 x.rg.ep, .int .i64 x.rg.ow, .int .i64 x.rg.pa, .slice x.aT x.two.length x.cT, .slice x.aN x.net.length x.cN, .slice x.aG x.ga.length x.cG, .slice x.aL x.ln.length x.cL, .slice x.aS x.sd.length x.cS], .pointer (some ⟨B, 0, none⟩), .pointer (some ⟨(B + 1), 0, none⟩), v3, undef, .pointer (some ⟨B, 0, none⟩), .int .i64 x.id, .pointer (some ⟨B, 1, none⟩), .int .i64 x.po, .pointer (some ⟨B, 2, none⟩), .agg #[.int .i64 x.rg.ep, .int .i64 x.rg.ow, .int .i64 x.rg.pa], v11, .pointer (some ⟨B, 6, none⟩), .slice x.aN x.net.length x.cN, v14, v15, .pointer (some ⟨B, 7, none⟩), .slice x.aG x.ga.length x.cG, v18, v19, .pointer (some ⟨B, 8, none⟩), .slice x.aL x.ln.length x.cL, v22, v23, .pointer (some ⟨B, 9, none⟩), .slice x.aS x.sd.length x.cS, v26, v27, undef, undef, undef, undef, undef, undef, undef, undef, undef, undef, undef, undef, undef, undef, undef, undef, undef, undef, undef]
def cpV (x : BxD) (v14 v18 v22 v26 : Value) : Value := .agg #[.int .i64 x.id, .int .i64 x.po, .int .i64 x.rg.ep, .int .i64 x.rg.ow, .int .i64 x.rg.pa, .slice none 0 0, v14, v18, v22, v26]
/-- How far the statement is. -/
structure CpS (x : BxD) (base : Nat) (y : World) (b1 a1 b2 a2 b3 a3 b4 a4 al c : Bool) (v3 v11 v14 v15 v18 v19 v22 v23 v26 v27 : Value) (W : World) : Prop where
  bel : Below base y W
  h1 : LS wiEnc 12 112 base W b1 a1 v11 v14 x.net
  h2 : LS boEnc 1 4 base W b2 a2 v15 v18 x.ga
  h3 : LS ikEnc 8 105 base W b3 a3 v19 v22 x.ln
  h4 : LS ouEnc 8 114 base W b4 a4 v23 v26 x.sd
  k2 : a2 = true → a1 = true
  k3 : a3 = true → a2 = true
  k4 : a4 = true → a3 = true
  k5 : c = true → a4 = true
  ha : (al = false ∧ v3 = undef) ∨ (al = true ∧ ∃ q, v3 = .pointer (some ⟨q, 0, none⟩) ∧ ZBx W q ∧ base ≤ q)
  hc : (c = false ∧ v27 = undef) ∨ (c = true ∧ v27 = cpV x v14 v18 v22 v26)
def CpI (x : BxD) (B base : Nat) (y : World) (n : Nat) (listed : Array Bool) (l : List Value) (W : World) : Prop :=
  ∃ (b1 a1 b2 a2 b3 a3 b4 a4 al c : Bool) (v3 v11 v14 v15 v18 v19 v22 v23 v26 v27 : Value), n = cpN b1 a1 b2 a2 b3 a3 b4 a4 al c ∧ listed = cpL b1 a1 b2 a2 b3 a3 b4 a4 al c ∧ l = cpF x B v3 v11 v14 v15 v18 v19 v22 v23 v26 v27 ∧ CpS x base y b1 a1 b2 a2 b3 a3 b4 a4 al c v3 v11 v14 v15 v18 v19 v22 v23 v26 v27 W
theorem LS.flag {X : Type} {enc : X → List Value} {n : Nat} {T : TypeId} {base : Nat} {W : World} {b a : Bool} {v v' : Value} {L : List X} (h : LS enc n T base W b a v v' L) : a = true → b = true := by
  rcases h with h | h | h
  · intro e; rw [h.2.1] at e; cases e
  · intro e; rw [h.2.1] at e; cases e
  · intro _; exact h.1

end Go.Proofs.YtnpiljegdiconaaGreat
namespace Go.Proofs.YtnpiljegdiconaaGreat
open Go.ChangeShapes Go.WideShapes Go.ChangeAt Go.RowKit
open Go.ChangeMaps (open_string shut_string)
set_option linter.unusedVariables false
set_option maxRecDepth 100000

theorem FOwn.notZ {X : Type} {enc : X → List Value} {n : Nat} {T : TypeId} {base : Nat} {w : World} {v : Value} {L : List X} (h : FOwn enc n T base w v L) {q : Nat} (hz : ZBx w q) (hT : T ≠ 48) : v.ownBlock ≠ some q := by
  intro e
  rcases h.2 with ⟨q1, _⟩ | ⟨g1, c1, u1, q1, _, o1, _⟩
  · rw [q1] at e; cases e
  · rw [q1] at e
    cases e
    unfold ZBx at hz
    rw [hz] at o1
    simp only [Option.some.injEq, Obj.cells.injEq] at o1
    exact hT o1.2.1.symm
theorem cpN_zero : ∀ (b1 a1 b2 a2 b3 a3 b4 a4 al c : Bool), cpN b1 a1 b2 a2 b3 a3 b4 a4 al c = 0 → b1 = true ∧ a1 = true ∧ b2 = true ∧ a2 = true ∧ b3 = true ∧ a3 = true ∧ b4 = true ∧ a4 = true ∧ al = true ∧ c = true := by
  intro b1 a1 b2 a2 b3 a3 b4 a4 al c h
  unfold cpN at h
  cases b1 <;> cases a1 <;> cases b2 <;> cases a2 <;> cases b3 <;> cases a3 <;> cases b4 <;> cases a4 <;> cases al <;> cases c <;> first | (cases h; done) | exact ⟨rfl, rfl, rfl, rfl, rfl, rfl, rfl, rfl, rfl, rfl⟩
theorem cpR_ne : ∀ (b1 a1 b2 a2 b3 a3 b4 a4 al c : Bool), (a2 = true → a1 = true) → (a3 = true → a2 = true) → (a4 = true → a3 = true) → (c = true → a4 = true) → cpN b1 a1 b2 a2 b3 a3 b4 a4 al c ≠ 0 → cpR b1 a1 b2 a2 b3 a3 b4 a4 al c ≠ [] := of_decide_eq_true (by kernel_rfl)

end Go.Proofs.YtnpiljegdiconaaGreat
namespace Go.Proofs.YtnpiljegdiconaaGreat
open Go.ChangeShapes Go.WideShapes Go.ChangeAt Go.RowKit
open Go.ChangeMaps (open_string shut_string)
set_option linter.unusedVariables false
set_option maxRecDepth 100000

theorem ZBx.box {w : World} {q : Nat} (h : ZBx w q) : BxB w q BxD.zero := by
  unfold ZBx at h
  refine ⟨⟨?_, ?_, ?_, ?_, ?_, ?_, ?_, ?_, ?_, ?_⟩, fun i => ?_⟩
  all_goals simp [World.cell?, World.frozen?, h, BxD.zero, go_sem]
theorem heap_put10 (w : World) (q k : Nat) (x : BxD) (h : k ≠ q) : (((((((((((w.setCell ⟨q, 0, none⟩ (.int .i64 x.id)).setCell ⟨q, 1, none⟩ (.int .i64 x.po)).setCell ⟨q, 2, none⟩ (.int .i64 x.rg.ep)).setCell ⟨q, 3, none⟩ (.int .i64 x.rg.ow)).setCell ⟨q, 4, none⟩ (.int .i64 x.rg.pa)).setCell ⟨q, 5, none⟩ (.slice x.aT x.two.length x.cT)).setCell ⟨q, 6, none⟩ (.slice x.aN x.net.length x.cN)).setCell ⟨q, 7, none⟩ (.slice x.aG x.ga.length x.cG)).setCell ⟨q, 8, none⟩ (.slice x.aL x.ln.length x.cL)).setCell ⟨q, 9, none⟩ (.slice x.aS x.sd.length x.cS))).heap[k]? = w.heap[k]? := by
  rw [Below.heap_setCell _ _ _ _ h, Below.heap_setCell _ _ _ _ h, Below.heap_setCell _ _ _ _ h, Below.heap_setCell _ _ _ _ h, Below.heap_setCell _ _ _ _ h, Below.heap_setCell _ _ _ _ h, Below.heap_setCell _ _ _ _ h, Below.heap_setCell _ _ _ _ h, Below.heap_setCell _ _ _ _ h, Below.heap_setCell _ _ _ _ h]
theorem below_put10 {a w : World} {q n : Nat} (x : BxD) (h : Below n a w) (hq : n ≤ q) : Below n a ((((((((((w.setCell ⟨q, 0, none⟩ (.int .i64 x.id)).setCell ⟨q, 1, none⟩ (.int .i64 x.po)).setCell ⟨q, 2, none⟩ (.int .i64 x.rg.ep)).setCell ⟨q, 3, none⟩ (.int .i64 x.rg.ow)).setCell ⟨q, 4, none⟩ (.int .i64 x.rg.pa)).setCell ⟨q, 5, none⟩ (.slice x.aT x.two.length x.cT)).setCell ⟨q, 6, none⟩ (.slice x.aN x.net.length x.cN)).setCell ⟨q, 7, none⟩ (.slice x.aG x.ga.length x.cG)).setCell ⟨q, 8, none⟩ (.slice x.aL x.ln.length x.cL)).setCell ⟨q, 9, none⟩ (.slice x.aS x.sd.length x.cS)) := ((((((((((h.setCell (p := ⟨q, 0, none⟩) hq _).setCell (p := ⟨q, 1, none⟩) hq _).setCell (p := ⟨q, 2, none⟩) hq _).setCell (p := ⟨q, 3, none⟩) hq _).setCell (p := ⟨q, 4, none⟩) hq _).setCell (p := ⟨q, 5, none⟩) hq _).setCell (p := ⟨q, 6, none⟩) hq _).setCell (p := ⟨q, 7, none⟩) hq _).setCell (p := ⟨q, 8, none⟩) hq _).setCell (p := ⟨q, 9, none⟩) hq _)
theorem FView.oneD (w : World) (t : TypeId) (x : MiD) : FView mdEnc (w.alloc (Obj.cells #[.bool x.m.up, .int .i64 x.m.li, .int .i64 x.m.ep, .slice x.ad x.m.lg.length x.cap, .int .i64 x.m.sd, .int .i64 x.m.ac, .int .i64 x.m.al] t)) (some ⟨w.heap.size, 0, none⟩) [x] := by
  intro _
  refine ⟨w.heap.size, 0, rfl, fun j v hv => ?_⟩
  simp only [fcells, mdEnc, List.append_nil] at hv
  have hj : j < 7 := (List.getElem?_eq_some_iff.1 hv).1
  rcases (by omega : j = 0 ∨ j = 1 ∨ j = 2 ∨ j = 3 ∨ j = 4 ∨ j = 5 ∨ j = 6) with rfl | rfl | rfl | rfl | rfl | rfl | rfl <;> (cases hv; simp [go_sem])
theorem mdInfo : (Tryz.prog.info? 28).map (fun i => (i.zero, i.size, i.bytes)) = some (some (.agg #[.bool false, .int .i64 0, .int .i64 0, .slice none 0 0, .int .i64 0, .int .i64 0, .int .i64 0]), 7, 72) := by kernel_rfl
/-- A box that a call owns. -/
structure BxO (base : Nat) (w : World) (x : BxD) : Prop where
  t : FOwn mdEnc 7 28 base w (.slice x.aT x.two.length x.cT) x.two
  l : ∀ i, i < x.two.length → FOwn ikEnc 8 105 base w (.slice (x.two.getD i MiD.nil).ad (x.two.getD i MiD.nil).m.lg.length (x.two.getD i MiD.nil).cap) (x.two.getD i MiD.nil).m.lg
  n : FOwn wiEnc 12 112 base w (.slice x.aN x.net.length x.cN) x.net
  g : FOwn boEnc 1 4 base w (.slice x.aG x.ga.length x.cG) x.ga
  i : FOwn ikEnc 8 105 base w (.slice x.aL x.ln.length x.cL) x.ln
  s : FOwn ouEnc 8 114 base w (.slice x.aS x.sd.length x.cS) x.sd
  ap : ∀ j, j < x.two.length → ∀ g, (Value.slice (x.two.getD j MiD.nil).ad (x.two.getD j MiD.nil).m.lg.length (x.two.getD j MiD.nil).cap).ownBlock = some g → (Value.slice x.aL x.ln.length x.cL).ownBlock ≠ some g
theorem BxO.later {base : Nat} {w w' : World} {x : BxD} (h : BxO base w x) (k : Below w.heap.size w w') : BxO base w' x :=
  ⟨h.t.later k, fun i hi => (h.l i hi).later k, h.n.later k, h.g.later k, h.i.later k, h.s.later k, h.ap⟩
theorem BxO.base {b1 b2 : Nat} {w : World} {x : BxD} (h : BxO b1 w x) (hb : b2 ≤ b1) : BxO b2 w x :=
  ⟨h.t.base hb, fun i hi => (h.l i hi).base hb, h.n.base hb, h.g.base hb, h.i.base hb, h.s.base hb, h.ap⟩
/-- All its rows stand where the blocks that it owns stand. -/
theorem BxO.keep {base : Nat} {w w' : World} {x : BxD} (h : BxO base w x) (k : ∀ g, base ≤ g → g < w.heap.size → w'.heap[g]? = w.heap[g]?) : BxO base w' x :=
  ⟨h.t.keep (fun g e => k g (h.t.lt g e).1 (h.t.lt g e).2), fun i hi => (h.l i hi).keep (fun g e => k g ((h.l i hi).lt g e).1 ((h.l i hi).lt g e).2), h.n.keep (fun g e => k g (h.n.lt g e).1 (h.n.lt g e).2), h.g.keep (fun g e => k g (h.g.lt g e).1 (h.g.lt g e).2), h.i.keep (fun g e => k g (h.i.lt g e).1 (h.i.lt g e).2), h.s.keep (fun g e => k g (h.s.lt g e).1 (h.s.lt g e).2), h.ap⟩
/-- A row of type MI turned, or a box of boxes was written: the rest of what is owned stands. -/
theorem BxO.view {base : Nat} {w : World} {x : BxD} (h : BxO base w x) (bt : x.two.length ≤ 1048576) (bl : ∀ i, i < x.two.length → (x.two.getD i MiD.nil).m.lg.length ≤ 1048576) (bn : x.net.length ≤ 1048576) (bg : x.ga.length ≤ 1048576) (bi : x.ln.length ≤ 1048576) (bs : x.sd.length ≤ 1048576) : BxV w x :=
  ⟨h.t.view.2, fun i hi => (h.l i hi).view.2, h.n.view.2, h.g.view.2, h.i.view.2, h.s.view.2, bt, bl, bn, bg, bi, bs, h.t.capM⟩

end Go.Proofs.YtnpiljegdiconaaGreat
namespace Go.Proofs.YtnpiljegdiconaaGreat
open Go.ChangeShapes Go.WideShapes Go.ChangeAt Go.RowKit
open Go.ChangeMaps (open_string shut_string)
set_option linter.unusedVariables false
set_option maxRecDepth 100000

/-- A block that is none of a box's rows. -/
structure BxNe (q : Nat) (x : BxD) : Prop where
  t : ∀ b, (Value.slice x.aT x.two.length x.cT).ownBlock = some b → b ≠ q
  n : ∀ b, (Value.slice x.aN x.net.length x.cN).ownBlock = some b → b ≠ q
  g : ∀ b, (Value.slice x.aG x.ga.length x.cG).ownBlock = some b → b ≠ q
  i : ∀ b, (Value.slice x.aL x.ln.length x.cL).ownBlock = some b → b ≠ q
  s : ∀ b, (Value.slice x.aS x.sd.length x.cS).ownBlock = some b → b ≠ q
  l : ∀ j, j < x.two.length → ∀ b, (Value.slice (x.two.getD j MiD.nil).ad (x.two.getD j MiD.nil).m.lg.length (x.two.getD j MiD.nil).cap).ownBlock = some b → b ≠ q
theorem BxO.keepQ {base q : Nat} {w w' : World} {x : BxD} (h : BxO base w x) (hq : BxNe q x) (k : ∀ g, g ≠ q → w'.heap[g]? = w.heap[g]?) : BxO base w' x :=
  ⟨h.t.keep (fun g e => k g (hq.t g e)), fun i hi => (h.l i hi).keep (fun g e => k g (hq.l i hi g e)), h.n.keep (fun g e => k g (hq.n g e)), h.g.keep (fun g e => k g (hq.g g e)), h.i.keep (fun g e => k g (hq.i g e)), h.s.keep (fun g e => k g (hq.s g e)), h.ap⟩
theorem BxO.ne {base q : Nat} {w : World} {x : BxD} (h : BxO base w x) (hq : w.heap.size ≤ q) : BxNe q x :=
  ⟨fun b e => (by have := h.t.lt b e; omega), fun b e => (by have := h.n.lt b e; omega), fun b e => (by have := h.g.lt b e; omega), fun b e => (by have := h.i.lt b e; omega), fun b e => (by have := h.s.lt b e; omega), fun j hj b e => (by have := (h.l j hj).lt b e; omega)⟩
/-- A gate of an owned box is turned in place. -/
theorem BxO.gate {base : Nat} {w : World} {x : BxD} (h : BxO base w x) {g k : Nat} (hat : x.aG = some ⟨g, 0, none⟩) (hk : k < x.ga.length) (b : Bool) : BxO base (w.setCell ⟨g, k, none⟩ (.bool b)) { x with ga := x.ga.set k b } := by
  have hg : FOwn boEnc 1 4 base (w.setCell ⟨g, k, none⟩ (.bool b)) (.slice x.aG (x.ga.set k b).length x.cG) (x.ga.set k b) := by
    have h1 := h.g
    rw [hat] at h1 ⊢
    have := h1.set boEnc_len (by omega) hk b
    rw [Nat.mul_one] at this
    rw [List.length_set]
    exact this
  have hb : ∀ q, q ≠ g → (w.setCell ⟨g, k, none⟩ (.bool b)).heap[q]? = w.heap[q]? := fun q hq => Below.heap_setCell _ _ _ _ hq
  have ne : ∀ {X : Type} {e : X → List Value} {n : Nat} {T : TypeId} {b1 : Nat} {v : Value} {L : List X}, FOwn e n T b1 w v L → T ≠ 4 → ∀ q, v.ownBlock = some q → q ≠ g := fun hr hT q e e2 => (hr.apart h.g hT e) (by rw [hat, e2]; rfl)
  exact ⟨h.t.keep (fun q e => hb q (ne h.t (by decide) q e)), fun i hi => (h.l i hi).keep (fun q e => hb q (ne (h.l i hi) (by decide) q e)), h.n.keep (fun q e => hb q (ne h.n (by decide) q e)), hg, h.i.keep (fun q e => hb q (ne h.i (by decide) q e)), h.s.keep (fun q e => hb q (ne h.s (by decide) q e)), h.ap⟩
/-- Its list of what was said is turned to another row. -/
theorem BxO.said {base : Nat} {w w' : World} {x : BxD} (h : BxO base w x) (N : List Ou) (a : Option Addr) (c : Nat) (hN : FOwn ouEnc 8 114 base w' (.slice a N.length c) N) (k : ∀ g, g < w.heap.size → (Value.slice x.aS x.sd.length x.cS).ownBlock ≠ some g → w'.heap[g]? = w.heap[g]?) : BxO base w' { x with sd := N, aS := a, cS := c } :=
  ⟨h.t.keep (fun g e => k g (h.t.lt g e).2 (fun e2 => h.s.apart h.t (by decide) e2 e)), fun j hj => (h.l j hj).keep (fun g e => k g ((h.l j hj).lt g e).2 (fun e2 => h.s.apart (h.l j hj) (by decide) e2 e)), h.n.keep (fun g e => k g (h.n.lt g e).2 (fun e2 => h.s.apart h.n (by decide) e2 e)), h.g.keep (fun g e => k g (h.g.lt g e).2 (fun e2 => h.s.apart h.g (by decide) e2 e)), h.i.keep (fun g e => k g (h.i.lt g e).2 (fun e2 => h.s.apart h.i (by decide) e2 e)), hN, h.ap⟩
theorem OuAtO.keepA {w w' : World} {q o : Nat} {x : Ou} (h : OuAtO w q o x) (k : w'.heap[q]? = w.heap[q]?) : OuAtO w' q o x :=
  ⟨(World.cell?_of_block (a := ⟨q, o, none⟩) k).trans h.c0, (World.cell?_of_block (a := ⟨q, o + 1, none⟩) k).trans h.c1, (World.cell?_of_block (a := ⟨q, o + 2, none⟩) k).trans h.c2, (World.cell?_of_block (a := ⟨q, o + 3, none⟩) k).trans h.c3, (World.cell?_of_block (a := ⟨q, o + 4, none⟩) k).trans h.c4, (World.cell?_of_block (a := ⟨q, o + 5, none⟩) k).trans h.c5, (World.cell?_of_block (a := ⟨q, o + 6, none⟩) k).trans h.c6, (World.cell?_of_block (a := ⟨q, o + 7, none⟩) k).trans h.c7⟩
theorem OuAtO.belowA {w w' : World} {q o n : Nat} {x : Ou} (h : OuAtO w q o x) (k : Below n w w') (hq : q < n) : OuAtO w' q o x := h.keepA (k.block q hq)
/-- What the first of what is said leave. -/
def accK (b : Bx) (M : List Ou) : Bx := ⟨b.id, b.po, b.rg, b.two, b.net, M.foldl gateX b.ga, b.ln, b.sd ++ M⟩
theorem accK_nil (b : Bx) : accK b [] = b := by unfold accK; simp
theorem accK_len (b : Bx) (M : List Ou) : (accK b M).ga.length = b.ga.length := gateX_len M b.ga
theorem accK_snoc (b : Bx) (M : List Ou) (h : Ou) : accK b (M ++ [h]) = ⟨(accK b M).id, (accK b M).po, (accK b M).rg, (accK b M).two, (accK b M).net, gateX (accK b M).ga h, (accK b M).ln, (accK b M).sd ++ [h]⟩ := by
  unfold accK
  simp
theorem take_snoc {L : List Ou} {k : Nat} (h : k < L.length) : L.take (k + 1) = L.take k ++ [L.getD k Ou.nil] := by
  rw [List.take_add_one]
  simp [List.getD, h]
theorem accX_yes {b : Bx} {s : Int} {L : List Ou} (h : mindsX b s = true) : accX b s L = ⟨b.id, b.po, b.rg, b.two, b.net, L.foldl gateX b.ga, b.ln, lastS (b.sd ++ L)⟩ := by unfold accX; rw [if_pos h]
theorem lastS_all {M : List Ou} (h : M.length ≤ 40) : lastS M = M := by unfold lastS; rw [show M.length - 40 = 0 by omega]; rfl
theorem FView.dropO {w : World} {b : Nat} {L : List Ou} (h : FView ouEnc w (some ⟨b, 0, none⟩) L) {k : Nat} (hk : k ≤ L.length) : FView ouEnc w (some ⟨b, k * 8, none⟩) (L.drop k) := by
  intro hp
  rw [List.length_drop] at hp
  obtain ⟨b2, off, e, hc⟩ := h (by omega)
  cases e
  refine ⟨b, k * 8, rfl, fun j v hv => ?_⟩
  have e : (fcells ouEnc L)[k * 8 + j]? = some v := by
    have hL : fcells ouEnc L = fcells ouEnc (L.take k) ++ fcells ouEnc (L.drop k) := by
      rw [← fcells_app, List.take_append_drop]
    have hl : (fcells ouEnc (L.take k)).length = k * 8 := by rw [fcells_len ouEnc_len, List.length_take, Nat.min_eq_left hk]
    rw [hL, List.getElem?_append_right (by omega), hl, show k * 8 + j - k * 8 = j by omega]
    exact hv
  have := hc (k * 8 + j) v e
  simpa using this

end Go.Proofs.YtnpiljegdiconaaGreat
