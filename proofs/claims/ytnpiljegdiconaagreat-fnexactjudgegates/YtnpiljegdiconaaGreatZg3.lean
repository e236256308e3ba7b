/- spec.BoxOk, walked. spec.BridgeOf, walked. spec.Gates, walked. Boxes of one size; both Released, walked. The rules of the judge: who is paired, who has Line. spec.JudgeGates. impl.numFits, slices.Clone of In, journalOf, mindingOf, walked. (*minding).fits, walked. (*minding).fall, walked. impl.isFallen, impl.MinderOk, walked. impl.isNoMinder, isNoIn, loadFits, isNoWire, walked. slices.ContainsFunc of minders, wires and Ins, walked. impl.RegOk, walked. impl.BoxOk, walked. A region by its states; rows of different things. impl.judge. impl.BridgeOf, walked. impl.Gates, walked. The rules of the judge: gates. impl.JudgeGates. -/
import Derived.Test.YtnpiljegdiconaaGreatZg2
import Derived.Test.YtnpiljegdiconaaGreatRows
import Derived.WalkKit
import Derived.ProofKit
import Derived.OpenShut
import Derived.ShutString
import Derived.ChangeOld
import Derived.Below
import Derived.Deep.QuietTactic
import Derived.BigQuiet
import Derived.WalkSmall
import Derived.Laws.OwnMore
import Derived.WalkSpells
import Derived.WalkLawsBesides
import Derived.Deep.Cut
import Derived.Test.YtnpiljegdiconaaGreatZg1
import Derived.Test.YtnpiljegdiconaaGreatTakes
import Derived.Maps.AppendAt
import Derived.Test.YtnpiljegdiconaaGreatGa1
import Derived.Test.YtnpiljegdiconaaGreatBr1
import Derived.Laws.StructEq
import Derived.Test.YtnpiljegdiconaaGreatMi1
import Derived.Test.YtnpiljegdiconaaGreatIs2
import Derived.Test.YtnpiljegdiconaaGreatFlatApp
import Derived.Lib.SliceRun
import Derived.Test.YtnpiljegdiconaaGreatIs1
import Derived.Test.YtnpiljegdiconaaGreatIn2
import Derived.Test.YtnpiljegdiconaaGreatBxd1
import Derived.Test.YtnpiljegdiconaaGreatBr9
import Derived.Deep.RegionHeld
import Derived.Defers
import Derived.Recover
import Derived.Shelf.Abstract
import Derived.Test.YtnpiljegdiconaaGreatRe3
namespace Go.Proofs.YtnpiljegdiconaaGreat
open Go.ChangeShapes Go.WideShapes Go.ChangeAt Go.RowKit
open Go.ChangeMaps (open_string shut_string)
set_option linter.unusedVariables false
set_option maxRecDepth 100000

theorem MdAtO.below {w w' : World} {q o n : Nat} {x : MiD} (h : MdAtO w q o x) (k : Below n w w') (hq : q < n) : MdAtO w' q o x :=
  ⟨(World.cell?_of_block (a := ⟨q, o, none⟩) (k.block q hq)).trans h.c0, (World.cell?_of_block (a := ⟨q, o + 1, none⟩) (k.block q hq)).trans h.c1, (World.cell?_of_block (a := ⟨q, o + 2, none⟩) (k.block q hq)).trans h.c2, (World.cell?_of_block (a := ⟨q, o + 3, none⟩) (k.block q hq)).trans h.c3, (World.cell?_of_block (a := ⟨q, o + 4, none⟩) (k.block q hq)).trans h.c4, (World.cell?_of_block (a := ⟨q, o + 5, none⟩) (k.block q hq)).trans h.c5, (World.cell?_of_block (a := ⟨q, o + 6, none⟩) (k.block q hq)).trans h.c6⟩
theorem dec40 (n : Nat) : (true && (true && (true && (true && (true && (true && decide (n ≤ 40))))))) = decide ((n : Int) ≤ 40) := by
  by_cases h : n ≤ 40
  · rw [decide_eq_true h, decide_eq_true (show (n : Int) ≤ 40 by omega)]; rfl
  · rw [decide_eq_false h, decide_eq_false (show ¬ (n : Int) ≤ 40 by omega)]; rfl
set_option maxHeartbeats 8000000 in
theorem boxOkS (x : BxD) (w : World) (hV : BxV w x) :
    Calls Tryz.prog 33 #[.agg #[.int .i64 x.id, .int .i64 x.po, .int .i64 x.rg.ep, .int .i64 x.rg.ow, .int .i64 x.rg.pa, .slice x.aT x.two.length x.cT, .slice x.aN x.net.length x.cN, .slice x.aG x.ga.length x.cG, .slice x.aL x.ln.length x.cL, .slice x.aS x.sd.length x.cS]] w fun e w' => e = .returned (.bool (bxOk x.p)) ∧ Below w.heap.size w w' := by
  obtain ⟨R, hR⟩ : ∃ R, R = bxOk x.p := ⟨_, rfl⟩
  rw [← hR]
  replace hR : Hid _ := hR
  obtain ⟨y, hy⟩ : ∃ y, y = w.alloc (Obj.cells #[.int .i64 x.id, .int .i64 x.po, .int .i64 x.rg.ep, .int .i64 x.rg.ow, .int .i64 x.rg.pa, .slice x.aT x.two.length x.cT, .slice x.aN x.net.length x.cN, .slice x.aG x.ga.length x.cG, .slice x.aL x.ln.length x.cL, .slice x.aS x.sd.length x.cS] 48) := ⟨_, rfl⟩
  have B0 : Below w.heap.size w y := by rw [hy]; exact below_new _
  have A : BxAt y w.heap.size x := by rw [hy]; exact BxAt.new w _ x
  have V := hV.later B0
  go_enter Tryz.func33, Tryz.ntmps33
  have cc := A
  obtain ⟨a0, a1, a2, a3, a4, a5, a6, a7, a8, a9⟩ := cc
  go_wp2_with fail
  go_at_call 30
  rw [← hy]
  clear hy hV a0 a1 a2 a3 a4 a5 a6 a7 a8 a9
  refine (newBS x.id x.po y).mono ?_
  rintro e u1 ⟨ab, cb, rfl, _, k1⟩
  have A := A.below k1 A.lt
  have V := V.later k1
  have B1 := B0.trans (k1.mono B0.size)
  clear k1 B0
  obtain ⟨u2, hu2⟩ : ∃ u2, u2 = u1.alloc (Obj.cells #[.int .i64 (newI x.id x.po), .slice ab (newL x.id x.po).length cb] 56) := ⟨_, rfl⟩
  have k2 : Below u1.heap.size u1 u2 := by rw [hu2]; exact below_new _
  have A := A.below k2 A.lt
  have V := V.later k2
  have B2 := B1.trans (k2.mono B1.size)
  go_upto_region 2 with fail
  rw [← hu2]
  clear hu2 k2 B1
  cases h1 : nOk x.id x.po
  · have hN : Hid (R = false) := by unfold Hid; rw [hR.out]; unfold bxOk; rw [show nOk x.p.id x.p.po = _ from h1]; rfl
    go_wp2
    go_ret
    exact ⟨by rw [hN.out]; rfl, B2⟩
  · replace h1 : Hid _ := h1
    have cc := A
    obtain ⟨a0, a1, a2, a3, a4, a5, a6, a7, a8, a9⟩ := cc
    go_wp2_with fail
    go_at_call 21
    clear a0 a1 a2 a3 a4 a5 a6 a7 a8 a9
    refine (regOkS x.rg u2).mono ?_
    rintro e u3 ⟨rfl, k3⟩
    have A := A.below k3 A.lt
    have V := V.later k3
    have B3 := B2.trans (k3.mono B2.size)
    clear k3 B2
    cases h2 : rgOk x.rg
    · have hN : Hid (R = false) := by unfold Hid; rw [hR.out]; unfold bxOk; rw [show nOk x.p.id x.p.po = _ from h1.out, show rgOk x.p.rg = _ from h2]; rfl
      clear h2
      go_wp2
      go_ret
      exact ⟨by rw [hN.out]; rfl, B3⟩
    · replace h2 : Hid _ := h2
      by_cases h3 : x.two.length = 2
      · have d3 : ((x.two.length : Int) != 2) = false := by rw [bne_eq_false_iff_eq]; omega
        have h3' : Hid (decide (x.two.length = 2) = true) := decide_eq_true h3
        replace h3 : Hid (decide (x.p.two.length = 2) = true) := decide_eq_true (by rw [p_two_len]; exact of_decide_eq_true h3'.out)
        have h3n : 1 < x.two.length := by have := of_decide_eq_true h3'.out; omega
        clear h3'
        obtain ⟨d, hd⟩ : ∃ d, x.two.getD 0 MiD.nil = d := ⟨_, rfl⟩
        obtain ⟨d2, hd2⟩ : ∃ d, x.two.getD 1 MiD.nil = d := ⟨_, rfl⟩
        have vl1 := V.l 0 (by omega)
        have vl2 := V.l 1 h3n
        have ll1 := V.bl 0 (by omega)
        have ll2 := V.bl 1 h3n
        rw [hd] at vl1 ll1
        rw [hd2] at vl2 ll2
        have m0 : Hid (mOf x.p 0 = d.m) := by unfold Hid; rw [mOf_p]; show (x.two.getD 0 MiD.nil).m = _; rw [hd]
        have m1 : Hid (mOf x.p 1 = d2.m) := by unfold Hid; rw [mOf_p]; show (x.two.getD 1 MiD.nil).m = _; rw [hd2]
        obtain ⟨b, off, hat, _⟩ := V.t (by omega)
        have hc0 : MdAtO u3 b off d := by have ht := V.t; rw [hat] at ht; have := mdAtO_of (ht.at_ mdEnc_len MiD.nil (show 0 < x.two.length by omega)); rw [hd, Nat.zero_mul, Nat.add_zero] at this; exact this
        have hc1 : MdAtO u3 b (off + 7) d2 := by have ht := V.t; rw [hat] at ht; have := mdAtO_of (ht.at_ mdEnc_len MiD.nil h3n); rw [hd2, Nat.one_mul] at this; exact this
        have hbl : b < u3.heap.size := World.block_lt_of_cell? _ _ hc0.c0
        replace hat : Hid _ := hat
        replace hd : Hid _ := hd
        replace hd2 : Hid _ := hd2
        have cc := A
        obtain ⟨a0, a1, a2, a3, a4, a5, a6, a7, a8, a9⟩ := cc
        rw [hat.out] at a5
        have cc := hc0
        obtain ⟨e0, e1, e2, e3, e4, e5, e6⟩ := cc
        go_wp2_with fail
        go_at_call 64
        clear a0 a1 a2 a3 a4 a5 a6 a7 a8 a9 e0 e1 e2 e3 e4 e5 e6 d3
        refine (miOkS d.m d.ad d.cap u3 vl1 (by omega)).mono ?_
        rintro e u5 ⟨rfl, k5⟩
        have vl2 := vl2.below k5 (vl2.lt ikEnc_len (by omega))
        have hc1 : MdAtO u5 b (off + 7) d2 := hc1.below k5 hbl
        have A := A.below k5 A.lt
        have V := V.later k5
        have B5 := B3.trans (k5.mono B3.size)
        clear k5 B3
        cases h4 : miOk d.m
        · have hN : Hid (R = false) := by unfold Hid; rw [hR.out]; unfold bxOk; rw [show nOk x.p.id x.p.po = _ from h1.out, show rgOk x.p.rg = _ from h2.out, h3.out, show miOk (mOf x.p 0) = false by rw [m0.out]; exact h4]; rfl
          clear h4
          go_wp2
          go_ret
          exact ⟨by rw [hN.out]; rfl, B5⟩
        · replace h4 : Hid (miOk (mOf x.p 0) = true) := by unfold Hid; rw [m0.out]; exact h4
          have cc := A
          obtain ⟨a0, a1, a2, a3, a4, a5, a6, a7, a8, a9⟩ := cc
          rw [hat.out] at a5
          have cc := hc1
          obtain ⟨e0, e1, e2, e3, e4, e5, e6⟩ := cc
          go_wp2_with fail
          go_at_call 64
          clear a0 a1 a2 a3 a4 a5 a6 a7 a8 a9 e0 e1 e2 e3 e4 e5 e6
          refine (miOkS d2.m d2.ad d2.cap u5 vl2 (by omega)).mono ?_
          rintro e u6 ⟨rfl, k6⟩
          have A := A.below k6 A.lt
          have V := V.later k6
          have B6 := B5.trans (k6.mono B5.size)
          clear k6 B5
          cases h5 : miOk d2.m
          · have hN : Hid (R = false) := by unfold Hid; rw [hR.out]; unfold bxOk; rw [show nOk x.p.id x.p.po = _ from h1.out, show rgOk x.p.rg = _ from h2.out, h3.out, h4.out, show miOk (mOf x.p 1) = false by rw [m1.out]; exact h5]; rfl
            clear h5
            go_wp2
            go_ret
            exact ⟨by rw [hN.out]; rfl, B6⟩
          · replace h5 : Hid (miOk (mOf x.p 1) = true) := by unfold Hid; rw [m1.out]; exact h5
            have cc := A
            obtain ⟨a0, a1, a2, a3, a4, a5, a6, a7, a8, a9⟩ := cc
            go_wp2_with fail
            go_at_call 89
            clear a0 a1 a2 a3 a4 a5 a6 a7 a8 a9
            refine (netS x u6 V).mono ?_
            rintro e u7 ⟨rfl, k7⟩
            have A := A.below k7 A.lt
            have V := V.later k7
            have B7 := B6.trans (k7.mono B6.size)
            clear k7 B6
            cases h6 : x.net.all wiOk && decide (x.net.length ≤ 20)
            · have h6' : (x.p.net.all wiOk && (decide (x.p.net.length ≤ 20) && (decide ((x.p.ga.length : Int) = x.p.po) && (insB x.p.ln && decide (x.p.sd.length ≤ 40))))) = false := by rw [← Bool.and_assoc, show (x.p.net.all wiOk && decide (x.p.net.length ≤ 20)) = false from h6]; rfl
              have hN : Hid (R = false) := by unfold Hid; rw [hR.out]; unfold bxOk; rw [show nOk x.p.id x.p.po = _ from h1.out, show rgOk x.p.rg = _ from h2.out, show decide (x.p.two.length = 2) = _ from h3.out, h4.out, h5.out, h6']; rfl
              clear h6 h6'
              go_wp2
              go_ret
              exact ⟨by rw [hN.out]; rfl, B7⟩
            · replace h6 : Hid _ := h6
              have h6' : Hid (∀ t, (x.p.net.all wiOk && (decide (x.p.net.length ≤ 20) && t)) = t) := fun t => by rw [← Bool.and_assoc, show (x.p.net.all wiOk && decide (x.p.net.length ≤ 20)) = true from h6.out]; rfl
              by_cases h7 : (x.ga.length : Int) = x.po
              · have d7 : ((x.ga.length : Int) == x.po) = true := by simpa using h7
                have h7' : Hid (decide ((x.p.ga.length : Int) = x.p.po) = true) := decide_eq_true h7
                replace h7 : Hid _ := h7
                have cc := A
                obtain ⟨a0, a1, a2, a3, a4, a5, a6, a7, a8, a9⟩ := cc
                go_wp2_with fail
                go_at_call 90
                clear a0 a1 a2 a3 a4 a5 a6 a7 a8 a9
                refine (insS x.aL x.cL x.ln u7 V.i (by have := V.bi; omega)).mono ?_
                rintro e u8 ⟨rfl, k8⟩
                have bs := V.bs
                have A := A.below k8 A.lt
                have V := V.later k8
                have B8 := B7.trans (k8.mono B7.size)
                clear k8 B7
                cases h8 : insB x.ln
                · have hN : Hid (R = false) := by unfold Hid; rw [hR.out]; unfold bxOk; rw [show nOk x.p.id x.p.po = _ from h1.out, show rgOk x.p.rg = _ from h2.out, show decide (x.p.two.length = 2) = _ from h3.out, h4.out, h5.out, h6'.out, h7'.out, show insB x.p.ln = _ from h8]; rfl
                  clear h8
                  go_wp2
                  go_ret
                  exact ⟨by rw [hN.out]; rfl, B8⟩
                · replace h8 : Hid _ := h8
                  have cc := A
                  obtain ⟨a0, a1, a2, a3, a4, a5, a6, a7, a8, a9⟩ := cc
                  have hN : Hid (R = decide ((x.sd.length : Int) ≤ 40)) := by unfold Hid; rw [hR.out]; unfold bxOk; rw [show nOk x.p.id x.p.po = _ from h1.out, show rgOk x.p.rg = _ from h2.out, show decide (x.p.two.length = 2) = _ from h3.out, h4.out, h5.out, h6'.out, h7'.out, show insB x.p.ln = _ from h8.out]; exact dec40 x.sd.length
                  go_wp2
                  go_ret
                  exact ⟨by rw [hN.out]; rfl, B8⟩
              · have d7 : ((x.ga.length : Int) == x.po) = false := by rw [beq_eq_false_iff_ne]; exact h7
                have cc := A
                obtain ⟨a0, a1, a2, a3, a4, a5, a6, a7, a8, a9⟩ := cc
                have hN : Hid (R = false) := by unfold Hid; rw [hR.out]; unfold bxOk; rw [show nOk x.p.id x.p.po = _ from h1.out, show rgOk x.p.rg = _ from h2.out, show decide (x.p.two.length = 2) = _ from h3.out, h4.out, h5.out, h6'.out, show decide ((x.p.ga.length : Int) = x.p.po) = false from decide_eq_false h7]; rfl
                clear h7
                go_wp2
                go_ret
                exact ⟨by rw [hN.out]; rfl, B7⟩
      · have d3 : ((x.two.length : Int) != 2) = true := by rw [bne_iff_ne]; omega
        have cc := A
        obtain ⟨a0, a1, a2, a3, a4, a5, a6, a7, a8, a9⟩ := cc
        have hN : Hid (R = false) := by unfold Hid; rw [hR.out]; unfold bxOk; rw [show nOk x.p.id x.p.po = _ from h1.out, show rgOk x.p.rg = _ from h2.out, show decide (x.p.two.length = 2) = false from decide_eq_false (by rw [p_two_len]; exact h3)]; rfl
        clear h3
        go_wp2
        go_ret
        exact ⟨by rw [hN.out]; rfl, B3⟩

end Go.Proofs.YtnpiljegdiconaaGreat
namespace Go.Proofs.YtnpiljegdiconaaGreat
open Go.ChangeShapes Go.WideShapes Go.ChangeAt Go.RowKit
open Go.ChangeMaps (open_string shut_string)
set_option linter.unusedVariables false
set_option maxRecDepth 100000

set_option maxHeartbeats 4000000 in
theorem bofS (id n : Int) (ad : Option Addr) (cap : Nat) (X : List Ik) (w : World) (hv : FView ikEnc w ad X) (hl : X.length ≤ 1048576) :
    Calls Tryz.prog 103 #[.int .i64 id, .int .i64 n, .slice ad X.length cap] w fun e w' => ∃ a c, e = .returned (.agg #[.int .i64 (newI id n), .slice a (ofR id n X).length c]) ∧ FOwn ptEnc 11 109 w.heap.size w' (.slice a (ofR id n X).length c) (ofR id n X) ∧ Below w.heap.size w w' := by
  have hB := hv.lt ikEnc_len (by omega)
  obtain ⟨y, hy⟩ : ∃ y, y = w.alloc (Obj.cells #[.int .i64 0, .slice none 0 0] 56) := ⟨_, rfl⟩
  have B0 : Below w.heap.size w y := by rw [hy]; exact below_new _
  have A0 : BBox y w.heap.size 0 (.slice none 0 0) := by rw [hy]; exact BBox.new w _ _ _
  have S0 := A0.lt
  have hR : ofR id n X = ofL (newI id n) (newL id n) X := rfl
  have hNl := newL_small id n
  have hno := fun h => ofR_not (id := id) (n := n) X h
  obtain ⟨I, hI⟩ : ∃ v, newI id n = v := ⟨_, rfl⟩
  obtain ⟨N, hN⟩ : ∃ v, newL id n = v := ⟨_, rfl⟩
  obtain ⟨ok, hok⟩ : ∃ v, nOk id n = v := ⟨_, rfl⟩
  obtain ⟨D, hD⟩ : ∃ v, ofR id n X = v := ⟨_, rfl⟩
  rw [hI, hN, hD] at hR
  rw [hI, hD, hok] at hno
  rw [hN] at hNl
  rw [hI, hD]
  replace hR : Hid _ := hR
  replace hno : Hid _ := hno
  replace hI : Hid _ := hI
  replace hN : Hid _ := hN
  replace hok : Hid _ := hok
  clear hD
  go_enter Tryz.func103, Tryz.ntmps103
  go_wp2_with fail
  go_at_call 30
  rw [← hy]
  clear hy
  refine (newBS id n y).mono ?_
  rintro e u1 ⟨a1, c1, rfl, O1, k1⟩
  rw [hN.out] at O1
  rw [hI.out, hN.out, hok.out]
  clear hI hN hok
  have B1 := B0.trans (k1.mono B0.size)
  have A0 := A0.below k1 A0.lt
  have s1 := k1.size
  have lo1 := O1.lt
  clear k1 B0
  obtain ⟨u2, hu2⟩ : ∃ u2, u2 = u1.alloc (Obj.cells #[.int .i64 I, .slice a1 N.length c1] 56) := ⟨_, rfl⟩
  have k2 : Below u1.heap.size u1 u2 := by rw [hu2]; exact below_new _
  have P2 : BBox u2 u1.heap.size I (.slice a1 N.length c1) := by rw [hu2]; exact BBox.new u1 _ _ _
  have B2 := B1.trans (k2.mono B1.size)
  have A0 := A0.below k2 A0.lt
  have O1 := O1.later k2
  have s2 := P2.lt
  go_upto_region 2 with fail
  rw [← hu2]
  clear hu2 k2 B1
  obtain ⟨p, hp⟩ : ∃ p, p = u1.heap.size := ⟨_, rfl⟩
  rw [← hp] at P2 s1 s2 lo1 ⊢
  clear hp
  have lp : w.heap.size < p := by omega
  clear hno
  go_wp2
  go_loopw [9] (fun i wr => ∃ (k : Nat) (a : Option Addr) (c : Nat) (L : List Pt), k ≤ X.length ∧ i = .int .i64 k ∧ ofL I N (X.take k) = L ∧ BBox wr p I (.slice a L.length c) ∧ FOwn ptEnc 11 109 w.heap.size wr (.slice a L.length c) L ∧ (∀ g, (Value.slice a L.length c).ownBlock = some g → g ≠ p ∧ g ≠ w.heap.size) ∧ BBox wr w.heap.size 0 (.slice none 0 0) ∧ Below w.heap.size w wr) (fun i _ => X.length - (intOf i).toNat)
  case atStart => exact ⟨0, a1, c1, N, Nat.zero_le _, rfl, rfl, P2, O1.base (by omega), fun g e => by have := lo1 g e; omega, A0, B2⟩
  case round =>
    obtain ⟨k, a, c, L, hk, rfl, hL, P, O, hne, A, B⟩ := hrel
    have hLl : L.length ≤ 4 := by rw [← hL, ofL_len]; exact hNl
    clear A0 P2 O1 B2 lo1
    by_cases hlt : k < X.length
    · have hst := ofL_step I N X Ik.nil hlt
      rw [hL] at hst
      replace hL : Hid _ := hL
      obtain ⟨b, off, rfl, _⟩ := hv (by omega)
      obtain ⟨x, hh⟩ : ∃ x, X.getD k Ik.nil = x := ⟨_, rfl⟩
      rw [hh] at hst
      have hck : IkAtO wr b (off + k * 8) x := by
        rw [← hh]
        exact ikAtO_of ((hv.below B hB).at_ ikEnc_len Ik.nil hlt)
      have hcB : b < w.heap.size := hB ⟨b, off, none⟩ rfl (by omega)
      replace hst : Hid _ := hst
      clear hh
      have lp2 := P.lt
      have bs := B.size
      have ln := O.lt
      go_upto_region 5 with fail
      refine wp_region_held (S := fun Y => Below w.heap.size wr Y) (by kernel_rfl) ?_
      change wpAnyH _ _ _ _ _ _ _ _ (World.drew _)
      have hb0 : Below wr.heap.size wr wr.drew := (Below.refl _ _).drew
      obtain ⟨u, hy0'⟩ : ∃ y_, y_ = wr.drew := ⟨_, rfl⟩
      rw [← hy0'] at hb0 ⊢
      clear hy0'
      have hc0 : Below w.heap.size wr u := hb0.mono (by omega)
      refine takeW 1 24 (.slice (some ⟨b, off, none⟩) X.length cap) rfl rfl (by kernel_rfl) (by kernel_rfl) (by kernel_rfl) (fun _ _ _ h => h) (by kernel_rfl) (by (intro w hSw; go_simp)) (by assumption) ?_
      simp only [List.set_cons_zero, List.set_cons_succ]
      refine takeW 2 25 (.int .i64 (k : Int)) rfl rfl (by kernel_rfl) (by kernel_rfl) (by kernel_rfl) (fun _ _ _ h => h) (by kernel_rfl) (by (intro w hSw; go_simp)) (by assumption) ?_
      simp only [List.set_cons_zero, List.set_cons_succ]
      refine takeW 3 26 (.pointer (some ⟨b, off + k * 8, none⟩)) rfl rfl (by kernel_rfl) (by kernel_rfl) (by kernel_rfl) (fun _ _ _ h => h) (by kernel_rfl) (by (intro w hSw; go_simp)) (by assumption) ?_
      simp only [List.set_cons_zero, List.set_cons_succ]
      refine takeW 4 27 (.agg #[.int .i64 x.k, .int .i64 x.q, .int .i64 x.r, .int .i64 x.c, .int .i64 x.b, .int .i64 x.p, .int .i64 x.h, .bool x.up]) rfl rfl (by kernel_rfl) (by kernel_rfl) (by kernel_rfl) (fun _ _ _ h => h) (by kernel_rfl) (by (intro Y hSw; obtain ⟨X0, X1, X2, X3, X4, X5, X6, X7⟩ := hck.below hSw hcB; go_simp)) (by assumption) ?_
      simp only [List.set_cons_zero, List.set_cons_succ]
      have P := P.below hb0 P.lt
      have A := A.below hb0 A.lt
      have O := O.later hb0
      have B3 := B.trans (hb0.mono B.size)
      have su := hb0.size
      refine wpAnyH_all (rs := [0]) (by kernel_rfl) (by simp) ?_
      intro i hi; obtain rfl : i = 0 := by simpa using hi
      refine wpOp_step rfl (fun Kz hKz => ?_)
      rw [if_pos (by kernel_rfl)]
      have cc := P
      obtain ⟨⟨p0, p1⟩, pf⟩ := cc
      go_simp
      clear p0 p1 pf
      refine hKz _ _ ⟨hc0, ?_⟩
      clear hKz Kz hi
      refine wpAnyH_all (rs := [5]) (by kernel_rfl) (by simp) ?_
      intro i hi; obtain rfl : i = 5 := by simpa using hi
      refine wpOp_step rfl (fun Kz hKz => ?_)
      rw [if_pos (by kernel_rfl)]
      go_simp
      go_at_call 77
      refine (reactS I a c L x u O.view.2 (by omega) O.capn).mono ?_
      rintro e w2 ⟨a2, c2, o2, d2, rfl, O2, _, _, k2⟩
      obtain ⟨M, hM⟩ : ∃ M, reactL I L x = M := ⟨_, rfl⟩
      obtain ⟨OO, hOO⟩ : ∃ M, reactO I L x = M := ⟨_, rfl⟩
      rw [hM] at O2 ⊢
      rw [hOO]
      have hst2 : Hid (ofL I N (X.take (k + 1)) = M) := by unfold Hid; rw [hst.out]; exact hM
      clear hM hOO hst
      have hc1 : Below w.heap.size wr w2 := hc0.trans (k2.mono (by omega))
      have P := P.below k2 P.lt
      have A := A.below k2 A.lt
      have B3 := B3.trans (k2.mono B3.size)
      refine hKz _ _ ⟨hc1, ?_⟩
      clear hKz Kz hi
      refine takeW 6 22 (.tuple #[.agg #[.int .i64 I, .slice a2 M.length c2], .slice o2 OO.length d2]) rfl rfl (by kernel_rfl) (by kernel_rfl) (by kernel_rfl) (fun _ _ _ h => h) (by kernel_rfl) (by (intro w hSw; go_simp)) (by assumption) ?_
      simp only [List.set_cons_zero, List.set_cons_succ]
      refine takeW 7 29 (.agg #[.int .i64 I, .slice a2 M.length c2]) rfl rfl (by kernel_rfl) (by kernel_rfl) (by kernel_rfl) (fun _ _ _ h => h) (by kernel_rfl) (by (intro w hSw; go_simp)) (by assumption) ?_
      simp only [List.set_cons_zero, List.set_cons_succ]
      refine takeW 8 30 (.slice o2 OO.length d2) rfl rfl (by kernel_rfl) (by kernel_rfl) (by kernel_rfl) (fun _ _ _ h => h) (by kernel_rfl) (by (intro w hSw; go_simp)) (by assumption) ?_
      simp only [List.set_cons_zero, List.set_cons_succ]
      refine wpAnyH_all (rs := [9]) (by kernel_rfl) (by simp) ?_
      intro i hi; obtain rfl : i = 9 := by simpa using hi
      refine wpOp_step rfl (fun Kz hKz => ?_)
      rw [if_pos (by kernel_rfl)]
      have cc := P
      obtain ⟨⟨p0, p1⟩, pf⟩ := cc
      have g0 := pf 0
      have g1 := pf 1
      clear pf
      go_simp
      clear p0 p1 g0 g1
      have hc2 : Below w.heap.size wr ((w2.setCell ⟨p, 0, none⟩ (.int .i64 I)).setCell ⟨p, 1, none⟩ (.slice a2 M.length c2)) := (hc1.setCell (p := ⟨p, 0, none⟩) (by show _ ≤ p; omega) _).setCell (p := ⟨p, 1, none⟩) (by show _ ≤ p; omega) _
      refine hKz _ _ ⟨hc2, ?_⟩
      clear hKz Kz hi
      refine wpAnyH_done (by kernel_rfl) ?_ _
      have P9 := P.put I (.slice a2 M.length c2)
      have lo2 := O2.lt
      have O9 : FOwn ptEnc 11 109 w.heap.size ((w2.setCell ⟨p, 0, none⟩ (.int .i64 I)).setCell ⟨p, 1, none⟩ (.slice a2 M.length c2)) (.slice a2 M.length c2) M := (O2.base (by omega)).keep (fun g e => P.put1 I _ g (by have := lo2 g e; omega))
      have A9 := A.keep (P.put1 I (.slice a2 M.length c2) w.heap.size (by omega))
      have B9 : Below w.heap.size w ((w2.setCell ⟨p, 0, none⟩ (.int .i64 I)).setCell ⟨p, 1, none⟩ (.slice a2 M.length c2)) := (B3.setCell (p := ⟨p, 0, none⟩) (by show _ ≤ p; omega) _).setCell (p := ⟨p, 1, none⟩) (by show _ ≤ p; omega) _
      have hne9 : ∀ g, (Value.slice a2 M.length c2).ownBlock = some g → g ≠ p ∧ g ≠ w.heap.size := fun g e => by have := lo2 g e; omega
      clear O O2 hne ln A k2 B3 lo2 P
      go_wp2
      go_roundw
      case rel => exact ⟨k + 1, a2, c2, M, by omega, by go_num, hst2.out, P9, O9, hne9, A9, B9⟩
      case measure => simp [intOf]; omega
    · obtain rfl : k = X.length := by omega
      rw [List.take_length] at hL
      obtain rfl : D = L := hR.out.trans hL
      have O9 : FOwn ptEnc 11 109 w.heap.size ((wr.setCell ⟨w.heap.size, 0, none⟩ (.int .i64 I)).setCell ⟨w.heap.size, 1, none⟩ (.slice a D.length c)) (.slice a D.length c) D := O.keep (fun g e => A.put1 I _ g (hne g e).2)
      have B9 : Below w.heap.size w ((wr.setCell ⟨w.heap.size, 0, none⟩ (.int .i64 I)).setCell ⟨w.heap.size, 1, none⟩ (.slice a D.length c)) := (B.setCell (p := ⟨w.heap.size, 0, none⟩) (Nat.le_refl _) _).setCell (p := ⟨w.heap.size, 1, none⟩) (Nat.le_refl _) _
      obtain ⟨⟨p0, p1⟩, pf⟩ := P
      obtain ⟨⟨z0, z1⟩, zf⟩ := A
      have g0 := zf 0
      have g1 := zf 1
      clear pf zf hne O B hL hR
      go_wp2
      refine bodyPost_ret (v := .agg #[.int .i64 I, .slice a D.length c]) (by simp [results, Tryz.results103, go_sem, *]) rfl ⟨a, c, rfl, O9, B9⟩

end Go.Proofs.YtnpiljegdiconaaGreat
namespace Go.Proofs.YtnpiljegdiconaaGreat
open Go.ChangeShapes Go.WideShapes Go.ChangeAt Go.RowKit
open Go.ChangeMaps (open_string shut_string)
set_option linter.unusedVariables false
set_option maxRecDepth 100000

set_option maxHeartbeats 4000000 in
theorem gatesS12r (id : Int) (ad : Option Addr) (cap : Nat) (L : List Pt) (w : World) (hv : FView ptEnc w ad L) (hl : L.length ≤ 1048576) :
    Calls Tryz.prog 74 #[.agg #[.int .i64 id, .slice ad L.length cap]] w fun e w' => ∃ a c, e = .returned (.slice a L.length c) ∧ FOwn boEnc 1 4 w.heap.size w' (.slice a L.length c) (gatesR L) ∧ Below w.heap.size w w' := by
  obtain ⟨j0, hj, hj0, hj1, hj2⟩ := info_parts boInfo
  obtain ⟨y, hy⟩ : ∃ y, y = w.alloc (Obj.cells #[.int .i64 id, .slice ad L.length cap] 56) := ⟨_, rfl⟩
  have B0 : Below w.heap.size w y := by rw [hy]; exact below_new _
  have A : BrAt y w.heap.size id (.slice ad L.length cap) := by rw [hy]; exact BrAt.new w _ _ _
  have hB := hv.lt ptEnc_len (by omega)
  have hV := hv.below B0 hB
  have hB := hV.lt ptEnc_len (by omega)
  have S0 := A.lt
  clear hv
  obtain ⟨y2, hy2⟩ : ∃ y2, y2 = y.alloc (Obj.cells #[] 4) := ⟨_, rfl⟩
  have O0 : FOwn boEnc 1 4 y.heap.size y2 (.slice (some ⟨y.heap.size, 0, none⟩) 0 0) (gatesR (L.take 0)) := by
    rw [hy2]; exact FOwn.empty y
  have B1 : Below y.heap.size y y2 := by rw [hy2]; exact below_new _
  go_enter Tryz.func74, Tryz.ntmps74
  go_upto_region 1 with fail
  rw [← hy]
  clear hy
  go_upto_region 2 with fail
  rw [← hy2]
  clear hy2
  go_wp2
  go_loopw [3, 4] (fun v q wr => ∃ k : Nat, k ≤ L.length ∧ q = .int .i64 (k : Int) ∧ FOwn boEnc 1 4 y.heap.size wr v (gatesR (L.take k)) ∧ Below y.heap.size y wr) (fun _ q _ => L.length - (intOf q).toNat)
  case atStart => exact ⟨0, Nat.zero_le _, rfl, O0, B1⟩
  case round =>
    obtain ⟨k, hk1, rfl, O, kb⟩ := hrel
    clear O0 B1
    have hA := A.below kb S0
    obtain ⟨x1, x2⟩ := hA
    by_cases hlt : k < L.length
    · have hst := gatesR_take L hlt
      obtain ⟨b, off, rfl, _⟩ := hV (by omega)
      obtain ⟨h, hh⟩ : ∃ h, L.getD k Pt.nil = h := ⟨_, rfl⟩
      have hck : PtAtO wr b (off + k * 11) h := by
        rw [← hh]
        exact ptAtO_of ((hV.below kb hB).at_ ptEnc_len Pt.nil hlt)
      rw [hh] at hst
      have hop := hck.c10
      clear hck hh
      obtain ⟨M, hM⟩ : ∃ M, gatesR (L.take k) = M := ⟨_, rfl⟩
      have hMl : M.length ≤ k := by rw [← hM, gatesR_len]; simp; omega
      rw [hM] at O hst
      clear hM
      obtain ⟨ak, ck2, rfl⟩ := O.open_
      replace hst : Hid _ := hst
      have V1 := FView.oneB wr 4 h.op
      have kx : Below wr.heap.size wr (wr.alloc (Obj.cells #[.bool h.op] 4)) := below_new _
      have O4 := O.later kx
      have b4 := kb.trans (kx.mono kb.size)
      have s4 := b4.size
      clear kx
      go_wp2_with (first | (at_builtin; refine fappL boEnc_len boEnc_ones rfl _ _ 45 rfl y.heap.size 4 j0 (.bool false) 1 Tryz.underlying45 hj hj0 hj1 hj2 rfl (by decide) (by decide) (.slice ak M.length ck2) M rfl O4 (some ⟨wr.heap.size, 0, none⟩) 1 [h.op] rfl (fun e => by cases e) V1 ?z0 ?z1 ?_) | go_in)
      case z0 => first | omega | (simp; omega)
      case z1 => first | omega | (simp; omega)
      intro vZ wZ hownZ hgrowZ _
      have hob : ∀ q, (Value.slice ak M.length ck2).ownBlock = some q → y.heap.size ≤ q := fun q e => (O4.lt q e).1
      have bZ : Below y.heap.size y wZ := b4.grown hgrowZ (by exact s4) hob
      clear hgrowZ V1 O4 hob O b4
      go_wp2
      go_roundw
      case rel => exact ⟨k + 1, by omega, by go_num, by rw [hst.out]; exact hownZ, bZ⟩
      case measure => simp [intOf]; omega
    · obtain rfl : k = L.length := by omega
      rw [List.take_length] at O
      obtain ⟨ak, ck2, rfl⟩ := O.open_
      have OZ := O.base B0.size
      rw [gatesR_len] at OZ ⊢
      have bZ := B0.trans (kb.mono B0.size)
      go_wp2
      go_ret
      exact ⟨_, _, rfl, OZ, bZ⟩
theorem gatesS12 (id : Int) (ad : Option Addr) (cap : Nat) (L : List Pt) (w : World) (hv : FView ptEnc w ad L) (hl : L.length ≤ 1048576) :
    Calls Tryz.prog 74 #[.agg #[.int .i64 id, .slice ad L.length cap]] w fun e w' => ∃ a c, e = .returned (.slice a (gatesR L).length c) ∧ FOwn boEnc 1 4 w.heap.size w' (.slice a (gatesR L).length c) (gatesR L) ∧ Below w.heap.size w w' := by
  rw [gatesR_len]
  exact gatesS12r id ad cap L w hv hl

end Go.Proofs.YtnpiljegdiconaaGreat
namespace Go.Proofs.YtnpiljegdiconaaGreat
open Go.ChangeShapes Go.WideShapes Go.ChangeAt Go.RowKit
open Go.ChangeMaps (open_string shut_string)
set_option linter.unusedVariables false
set_option maxRecDepth 100000

theorem lToM_congr {D E : List MiD} (h : E.map MiD.m = D.map MiD.m) : ∀ n, lToM E n = lToM D n
  | 0 => rfl
  | n + 1 => by
    have e : (E.getD n MiD.nil).m = (D.getD n MiD.nil).m := by
      have := congrArg (fun L => L.getD n Mi.nil) h
      simpa only [md_get] using this
    show lToM E n + _ = lToM D n + _
    rw [lToM_congr h n, e]
theorem BxSm.of {x z : BxD} (k : BxSm x) (h : z.p = x.p) : BxSm z := by
  unfold BxD.p at h
  simp only [Bx.mk.injEq] at h
  obtain ⟨_, _, _, ht, hn, hg, hl, hs⟩ := h
  have hlen : z.two.length = x.two.length := by have := congrArg List.length ht; simpa using this
  exact ⟨by rw [hlen]; exact k.t, by rw [hlen, lToM_congr ht]; exact k.l, by rw [hn]; exact k.n, by rw [hg]; exact k.g, by rw [hl]; exact k.i, by rw [hs]; exact k.s⟩
theorem relS (x : BxD) (w : World) (hl : x.ln.length ≤ 1048576) :
    Calls Tryz.prog 35 #[.agg #[.int .i64 x.id, .int .i64 x.po, .int .i64 x.rg.ep, .int .i64 x.rg.ow, .int .i64 x.rg.pa, .slice x.aT x.two.length x.cT, .slice x.aN x.net.length x.cN, .slice x.aG x.ga.length x.cG, .slice x.aL x.ln.length x.cL, .slice x.aS x.sd.length x.cS]] w fun e w' => e = .returned (.int .i64 (x.ln.length : Int)) ∧ Below w.heap.size w w' := by
  go_enter Tryz.func35, Tryz.ntmps35
  go_wp2
  go_ret
  exact ⟨rfl, below_new _⟩
theorem relI (x : BxD) (w : World) (hl : x.ln.length ≤ 1048576) :
    Calls Tryz.prog 34 #[.agg #[.int .i64 x.id, .int .i64 x.po, .int .i64 x.rg.ep, .int .i64 x.rg.ow, .int .i64 x.rg.pa, .slice x.aT x.two.length x.cT, .slice x.aN x.net.length x.cN, .slice x.aG x.ga.length x.cG, .slice x.aL x.ln.length x.cL, .slice x.aS x.sd.length x.cS]] w fun e w' => e = .returned (.int .i64 (x.ln.length : Int)) ∧ Below w.heap.size w w' := by
  go_enter Tryz.func34, Tryz.ntmps34
  go_wp2
  go_ret
  exact ⟨rfl, below_new _⟩

end Go.Proofs.YtnpiljegdiconaaGreat
namespace Go.Proofs.YtnpiljegdiconaaGreat
open Go.ChangeShapes Go.WideShapes Go.ChangeAt Go.RowKit
open Go.ChangeMaps (open_string shut_string)
set_option linter.unusedVariables false
set_option maxRecDepth 100000

set_option linter.unusedSimpArgs false in
set_option maxHeartbeats 4000000 in
theorem pairedI (x : BxD) (w : World) (hJ : BxJ w x) (hb : bxOk x.p = true) :
    Calls Tryz.prog 102 #[.agg #[.int .i64 x.id, .int .i64 x.po, .int .i64 x.rg.ep, .int .i64 x.rg.ow, .int .i64 x.rg.pa, .slice x.aT x.two.length x.cT, .slice x.aN x.net.length x.cN, .slice x.aG x.ga.length x.cG, .slice x.aL x.ln.length x.cL, .slice x.aS x.sd.length x.cS]] w fun e w' => YN e (pairJ x.p) ∧ Below w.heap.size w w' := by
  obtain ⟨Q, hQ⟩ : ∃ Q : Prop, Q = (pairJ x.p) := ⟨_, rfl⟩
  rw [← hQ]
  replace hQ : Hid _ := hQ
  obtain ⟨y, hy⟩ : ∃ y, y = w.alloc (Obj.cells #[.int .i64 x.id, .int .i64 x.po, .int .i64 x.rg.ep, .int .i64 x.rg.ow, .int .i64 x.rg.pa, .slice x.aT x.two.length x.cT, .slice x.aN x.net.length x.cN, .slice x.aG x.ga.length x.cG, .slice x.aL x.ln.length x.cL, .slice x.aS x.sd.length x.cS] 48) := ⟨_, rfl⟩
  have B : Below w.heap.size w y := by rw [hy]; exact below_new _
  have A : BxAt y w.heap.size x := by rw [hy]; exact BxAt.new w _ x
  have J := hJ.later B
  obtain ⟨o0, o1⟩ := bxOk_ow hb
  obtain ⟨h2, _⟩ := bxOk_smJ hb
  obtain ⟨k, hk⟩ : ∃ k : Nat, 1 - x.rg.ow = (k : Int) := ⟨(1 - x.rg.ow).toNat, by omega⟩
  have hkl : k < x.two.length := by omega
  have hwr : IntKind.i64.wrap (1 - x.rg.ow) = (k : Int) := by rw [IntKind.wrap_i64]; omega
  obtain ⟨g, off, hat, _⟩ := J.v.t (by omega)
  obtain ⟨m, hm⟩ : ∃ m, x.two.getD k MiD.nil = m := ⟨_, rfl⟩
  have M0 : MdAtO y g (off + k * 7) m := by have h1 := J.v.t; rw [hat] at h1; have := mdAtO_of (h1.at_ mdEnc_len MiD.nil hkl); rw [hm] at this; exact this
  have gl : g < y.heap.size := J.v.t.lt mdEnc_len (by omega) _ hat (by omega)
  have hmo : mOf x.p (1 - x.rg.ow) = m.m := by rw [hk, mOf_p]; simp only [Int.toNat_natCast]; rw [hm]
  have hQ2 : Hid (Q ↔ m.m.up = true ∧ 0 < m.m.li ∧ m.m.li = x.rg.pa ∧ m.m.ep = 0) := by unfold Hid; rw [hQ.out]; unfold pairJ; show ((mOf x.p (1 - x.rg.ow)).up = true ∧ 0 < (mOf x.p (1 - x.rg.ow)).li ∧ (mOf x.p (1 - x.rg.ow)).li = x.rg.pa ∧ (mOf x.p (1 - x.rg.ow)).ep = 0) ↔ _; rw [hmo]
  clear hQ hmo hm hk o0 o1 h2 hb J hJ
  replace hat : Hid _ := hat
  go_enter Tryz.func102, Tryz.ntmps102
  go_upto_region 1 with fail
  rw [← hy]
  clear hy
  have cc := A
  obtain ⟨a0, a1, a2, a3, a4, a5, a6, a7, a8, a9⟩ := cc
  rw [hat.out] at a5
  obtain ⟨m0, m1, m2, m3, m4, m5, m6⟩ := M0
  go_upto_region 2 with fail
  clear m0 m1 m2 m3 m4 m5 m6 hwr hat
  obtain ⟨⟨up, li, ep, lg, sd, ac, al⟩, ad, cap⟩ := m
  dsimp only at hQ2 ⊢
  obtain ⟨y2, hy2⟩ : ∃ y_, y_ = y.alloc (Obj.cells #[.bool up, .int .i64 li, .int .i64 ep, .slice ad lg.length cap, .int .i64 sd, .int .i64 ac, .int .i64 al] 28) := ⟨_, rfl⟩
  rw [← hy2]
  have kq : Below y.heap.size y y2 := by rw [hy2]; exact below_new _
  have M2 : MiAt y2 y.heap.size ⟨up, li, ep, lg, sd, ac, al⟩ (.slice ad lg.length cap) := by rw [hy2]; constructor <;> simp [go_sem]
  have A2 := A.below kq A.lt
  have B := B.trans (kq.mono B.size)
  clear a0 a1 a2 a3 a4 a5 a6 a7 a8 a9 A hy2 kq gl
  obtain ⟨n0, n1, n2, n3, n4, n5, n6⟩ := M2
  obtain ⟨a0, a1, a2, a3, a4, a5, a6, a7, a8, a9⟩ := A2
  cases up
  · go_wp2
    go_ret
    exact ⟨YN.no (fun q_ => by have q2 := (hQ2.out.1 q_).1; first | cases q2 | exact q2.elim | simp at q2), B⟩
  · by_cases h1 : 0 < li
    · have d1 : decide (li > 0) = true := by simpa using h1
      have d1' : decide (0 < li) = true := by simpa using h1
      replace h1 : Hid _ := h1
      by_cases h2 : li = x.rg.pa
      · have d2 : (li == x.rg.pa) = true := by simpa using h2
        replace h2 : Hid _ := h2
        by_cases h3 : ep = 0
        · have d3 : (ep == 0) = true := by simpa using h3
          replace h3 : Hid _ := h3
          go_wp2
          go_ret
          exact ⟨YN.yes (hQ2.out.2 (by have q1 := h1.out; have q2 := h2.out; have q3 := h3.out; simp_all)), B⟩
        · have d3 : (ep == 0) = false := by simpa using h3
          replace h3 : Hid (¬ ep = 0) := h3
          go_wp2
          go_ret
          exact ⟨YN.no (fun q_ => by have q1 := h3.out; have q2 := (hQ2.out.1 q_).2.2.2; omega), B⟩
      · have d2 : (li == x.rg.pa) = false := by simpa using h2
        replace h2 : Hid (¬ li = x.rg.pa) := h2
        go_wp2
        go_ret
        exact ⟨YN.no (fun q_ => by have q1 := h2.out; have q2 := (hQ2.out.1 q_).2.2.1; omega), B⟩
    · have d1 : decide (li > 0) = false := by simpa using h1
      have d1' : decide (0 < li) = false := by simpa using h1
      replace h1 : Hid (¬ 0 < li) := h1
      go_wp2
      go_ret
      exact ⟨YN.no (fun q_ => by have q1 := h1.out; have q2 := (hQ2.out.1 q_).2.1; omega), B⟩
set_option linter.unusedSimpArgs false in
set_option maxHeartbeats 4000000 in
theorem beginsI (x : BxD) (k : Nat) (hk : k < 2) (w : World) (hJ : BxJ w x) (hb : bxOk x.p = true) :
    Calls Tryz.prog 159 #[.agg #[.int .i64 x.id, .int .i64 x.po, .int .i64 x.rg.ep, .int .i64 x.rg.ow, .int .i64 x.rg.pa, .slice x.aT x.two.length x.cT, .slice x.aN x.net.length x.cN, .slice x.aG x.ga.length x.cG, .slice x.aL x.ln.length x.cL, .slice x.aS x.sd.length x.cS], .int .i64 (k : Int)] w fun e w' => YN e (begJ x.ln (x.two.getD k MiD.nil).m.lg) ∧ Below w.heap.size w w' := by
  obtain ⟨Q, hQ⟩ : ∃ Q : Prop, Q = (begJ x.ln (x.two.getD k MiD.nil).m.lg) := ⟨_, rfl⟩
  rw [← hQ]
  replace hQ : Hid _ := hQ
  obtain ⟨y, hy⟩ : ∃ y, y = w.alloc (Obj.cells #[.int .i64 x.id, .int .i64 x.po, .int .i64 x.rg.ep, .int .i64 x.rg.ow, .int .i64 x.rg.pa, .slice x.aT x.two.length x.cT, .slice x.aN x.net.length x.cN, .slice x.aG x.ga.length x.cG, .slice x.aL x.ln.length x.cL, .slice x.aS x.sd.length x.cS] 48) := ⟨_, rfl⟩
  have B : Below w.heap.size w y := by rw [hy]; exact below_new _
  have A : BxAt y w.heap.size x := by rw [hy]; exact BxAt.new w _ x
  have J := hJ.later B
  obtain ⟨h2, hmi, _, _, hln, _⟩ := bxOk_smJ hb
  have hkl : k < x.two.length := by omega
  obtain ⟨g, off, hat, _⟩ := J.v.t (by omega)
  obtain ⟨m, hm⟩ : ∃ m, x.two.getD k MiD.nil = m := ⟨_, rfl⟩
  have M0 : MdAtO y g (off + k * 7) m := by have h1 := J.v.t; rw [hat] at h1; have := mdAtO_of (h1.at_ mdEnc_len MiD.nil hkl); rw [hm] at this; exact this
  have gl : g < y.heap.size := J.v.t.lt mdEnc_len (by omega) _ hat (by omega)
  have hml := miOk_lgJ (hmi k (by omega))
  have hvl := J.v.l k hkl
  have hcl := J.c k hkl
  rw [hm] at hml hvl hcl hQ
  clear h2 hmi hb hJ
  have hBl := hvl.lt ikEnc_len (by omega)
  have hBn := J.v.i.lt ikEnc_len (by omega)
  replace hat : Hid _ := hat
  replace hm : Hid _ := hm
  go_enter Tryz.func159, Tryz.ntmps159
  go_upto_region 1 with fail
  rw [← hy]
  clear hy
  refine wp_region_held (S := fun Y => Below y.heap.size y Y) (by kernel_rfl) ?_
  change wpAnyH _ _ _ _ _ _ _ _ (World.drew _)
  have hb0 : Below y.heap.size y y.drew := (Below.refl _ _).drew
  obtain ⟨u0, hu0⟩ : ∃ y_, y_ = y.drew := ⟨_, rfl⟩
  rw [← hu0] at hb0 ⊢
  clear hu0
  refine takeW 0 7 (.pointer (some ⟨w.heap.size, 5, none⟩)) rfl rfl (by kernel_rfl) (by kernel_rfl) (by kernel_rfl) (fun _ _ _ h => h) (by kernel_rfl) (by (intro w hSw; go_simp)) (by assumption) ?_
  simp only [List.set_cons_zero, List.set_cons_succ]
  refine takeW 1 8 (.slice (some ⟨g, off, none⟩) x.two.length x.cT) rfl rfl (by kernel_rfl) (by kernel_rfl) (by kernel_rfl) (fun _ _ _ h => h) (by kernel_rfl) (by (intro Y hSw; obtain ⟨X0, X1, X2, X3, X4, X5, X6, X7, X8, X9⟩ := A.below hSw A.lt; rw [hat.out] at X5; go_simp)) (by assumption) ?_
  simp only [List.set_cons_zero, List.set_cons_succ]
  refine takeW 2 9 (.int .i64 (k : Int)) rfl rfl (by kernel_rfl) (by kernel_rfl) (by kernel_rfl) (fun _ _ _ h => h) (by kernel_rfl) (by (intro w hSw; go_simp)) (by assumption) ?_
  simp only [List.set_cons_zero, List.set_cons_succ]
  refine takeW 3 10 (.pointer (some ⟨g, off + k * 7, none⟩)) rfl rfl (by kernel_rfl) (by kernel_rfl) (by kernel_rfl) (fun _ _ _ h => h) (by kernel_rfl) (by (intro Y hSw; go_simp; try omega)) (by assumption) ?_
  simp only [List.set_cons_zero, List.set_cons_succ]
  refine takeW 4 11 (.pointer (some ⟨g, off + k * 7 + 3, none⟩)) rfl rfl (by kernel_rfl) (by kernel_rfl) (by kernel_rfl) (fun _ _ _ h => h) (by kernel_rfl) (by (intro w hSw; go_simp)) (by assumption) ?_
  simp only [List.set_cons_zero, List.set_cons_succ]
  refine takeW 5 12 (.slice m.ad m.m.lg.length m.cap) rfl rfl (by kernel_rfl) (by kernel_rfl) (by kernel_rfl) (fun _ _ _ h => h) (by kernel_rfl) (by (intro Y hSw; obtain ⟨X0, X1, X2, X3, X4, X5, X6⟩ := M0.belowJ hSw gl; go_simp)) (by assumption) ?_
  simp only [List.set_cons_zero, List.set_cons_succ]
  refine takeW 6 13 (.agg #[.int .i64 x.id, .int .i64 x.po, .int .i64 x.rg.ep, .int .i64 x.rg.ow, .int .i64 x.rg.pa, .slice x.aT x.two.length x.cT, .slice x.aN x.net.length x.cN, .slice x.aG x.ga.length x.cG, .slice x.aL x.ln.length x.cL, .slice x.aS x.sd.length x.cS]) rfl rfl (by kernel_rfl) (by kernel_rfl) (by kernel_rfl) (fun _ _ _ h => h) (by kernel_rfl) (by (intro Y hSw; obtain ⟨X0, X1, X2, X3, X4, X5, X6, X7, X8, X9⟩ := A.below hSw A.lt; go_simp)) (by assumption) ?_
  simp only [List.set_cons_zero, List.set_cons_succ]
  refine wpAnyH_all (rs := [7]) (by kernel_rfl) (by simp) ?_
  intro i hi; obtain rfl : i = 7 := by simpa using hi
  refine wpOp_step rfl (fun Kz hKz => ?_)
  rw [if_pos (by kernel_rfl)]
  go_simp
  go_at_call 34
  refine (relI x u0 (by omega)).mono ?_
  rintro e u1 ⟨rfl, kq⟩
  have hb1 : Below y.heap.size y u1 := hb0.trans (kq.mono hb0.size)
  clear kq
  refine hKz _ _ ⟨hb1, ?_⟩
  clear hKz Kz hi
  refine takeW 8 5 (.slice m.ad m.m.lg.length m.cap) rfl rfl (by kernel_rfl) (by kernel_rfl) (by kernel_rfl) (fun _ _ _ h => h) (by kernel_rfl) (by (intro w hSw; go_simp)) (by assumption) ?_
  simp only [List.set_cons_zero, List.set_cons_succ]
  refine takeW 9 6 (.int .i64 (x.ln.length : Int)) rfl rfl (by kernel_rfl) (by kernel_rfl) (by kernel_rfl) (fun _ _ _ h => h) (by kernel_rfl) (by (intro w hSw; go_simp)) (by assumption) ?_
  simp only [List.set_cons_zero, List.set_cons_succ]
  refine wpAnyH_done (by kernel_rfl) ?_ _
  clear hb0 u0 M0 gl hat
  have J := J.later hb1
  have A := A.below hb1 A.lt
  have B := B.trans (hb1.mono B.size)
  have hvl := hvl.below hb1 hBl
  have hvn := J.v.i
  have hBl := hvl.lt ikEnc_len (by omega)
  have hBn := hvn.lt ikEnc_len (by omega)
  clear hb1
  by_cases hle : x.ln.length ≤ m.m.lg.length
  · have d1 : decide ((m.m.lg.length : Int) ≥ (x.ln.length : Int)) = true := decide_eq_true (by omega)
    have d1' : decide ((x.ln.length : Int) ≤ (m.m.lg.length : Int)) = true := decide_eq_true (by omega)
    have d1'' : decide (x.ln.length ≤ m.m.lg.length) = true := decide_eq_true hle
    have hcx : x.ln.length ≤ m.cap := by omega
    have htl : (m.m.lg.take x.ln.length).length = x.ln.length := by rw [List.length_take]; omega
    replace htl : Hid _ := htl
    go_upto_region 2 with fail
    refine wp_region_held (S := fun Y => Below u1.heap.size u1 Y) (by kernel_rfl) ?_
    change wpAnyH _ _ _ _ _ _ _ _ (World.drew _)
    have hb0 : Below u1.heap.size u1 u1.drew := (Below.refl _ _).drew
    obtain ⟨u0, hu0⟩ : ∃ y_, y_ = u1.drew := ⟨_, rfl⟩
    rw [← hu0] at hb0 ⊢
    clear hu0
    refine takeW 0 15 (.slice m.ad m.m.lg.length m.cap) rfl rfl (by kernel_rfl) (by kernel_rfl) (by kernel_rfl) (fun _ _ _ h => h) (by kernel_rfl) (by (intro w hSw; go_simp)) (by assumption) ?_
    simp only [List.set_cons_zero, List.set_cons_succ]
    refine takeW 1 16 (.int .i64 (m.m.lg.length : Int)) rfl rfl (by kernel_rfl) (by kernel_rfl) (by kernel_rfl) (fun _ _ _ h => h) (by kernel_rfl) (by (intro w hSw; go_simp)) (by assumption) ?_
    simp only [List.set_cons_zero, List.set_cons_succ]
    refine takeW 2 17 (.int .i64 (x.ln.length : Int)) rfl rfl (by kernel_rfl) (by kernel_rfl) (by kernel_rfl) (fun _ _ _ h => h) (by kernel_rfl) (by (intro w hSw; go_simp)) (by assumption) ?_
    simp only [List.set_cons_zero, List.set_cons_succ]
    refine takeW 3 18 (.bool true) rfl rfl (by kernel_rfl) (by kernel_rfl) (by kernel_rfl) (fun _ _ _ h => h) (by kernel_rfl) (by (intro w hSw; go_simp)) (by assumption) ?_
    simp only [List.set_cons_zero, List.set_cons_succ]
    refine takeW 4 19 (.bool true) rfl rfl (by kernel_rfl) (by kernel_rfl) (by kernel_rfl) (fun _ _ _ h => h) (by kernel_rfl) (by (intro w hSw; go_simp)) (by assumption) ?_
    simp only [List.set_cons_zero, List.set_cons_succ]
    refine takeW 5 20 (.slice m.ad m.m.lg.length m.cap) rfl rfl (by kernel_rfl) (by kernel_rfl) (by kernel_rfl) (fun _ _ _ h => h) (by kernel_rfl) (by (intro w hSw; go_simp)) (by assumption) ?_
    simp only [List.set_cons_zero, List.set_cons_succ]
    refine takeW 6 21 (.int .i64 (x.ln.length : Int)) rfl rfl (by kernel_rfl) (by kernel_rfl) (by kernel_rfl) (fun _ _ _ h => h) (by kernel_rfl) (by (intro w hSw; go_simp)) (by assumption) ?_
    simp only [List.set_cons_zero, List.set_cons_succ]
    refine takeW 7 22 (.slice m.ad x.ln.length m.cap) rfl rfl (by kernel_rfl) (by kernel_rfl) (by kernel_rfl) (fun _ _ _ h => h) (by kernel_rfl) (by (intro Y hSw; go_simp; try omega)) (by assumption) ?_
    simp only [List.set_cons_zero, List.set_cons_succ]
    refine takeW 8 23 (.pointer (some ⟨w.heap.size, 8, none⟩)) rfl rfl (by kernel_rfl) (by kernel_rfl) (by kernel_rfl) (fun _ _ _ h => h) (by kernel_rfl) (by (intro w hSw; go_simp)) (by assumption) ?_
    simp only [List.set_cons_zero, List.set_cons_succ]
    refine takeW 9 24 (.slice x.aL x.ln.length x.cL) rfl rfl (by kernel_rfl) (by kernel_rfl) (by kernel_rfl) (fun _ _ _ h => h) (by kernel_rfl) (by (intro Y hSw; obtain ⟨X0, X1, X2, X3, X4, X5, X6, X7, X8, X9⟩ := A.below hSw A.lt; go_simp)) (by assumption) ?_
    simp only [List.set_cons_zero, List.set_cons_succ]
    refine wpAnyH_all (rs := [10]) (by kernel_rfl) (by simp) ?_
    intro i hi; obtain rfl : i = 10 := by simpa using hi
    refine wpOp_step rfl (fun Kz hKz => ?_)
    rw [if_pos (by kernel_rfl)]
    go_simp
    go_at_call 196
    refine (show Calls _ _ _ _ _ by have h_ := ikEql m.ad x.aL m.cap x.cL (m.m.lg.take x.ln.length) x.ln u0 ((hvl.below hb0 hBl).take _) (hvn.below hb0 hBn) (by rw [htl.out]; omega) (by omega); rw [htl.out] at h_; exact h_).mono ?_
    rintro e u2 ⟨⟨rb, rfl, hrb⟩, kq⟩
    have hb1 : Below u1.heap.size u1 u2 := hb0.trans (kq.mono hb0.size)
    clear kq
    replace hrb : Hid _ := hrb
    refine hKz _ _ ⟨hb1, ?_⟩
    clear hKz Kz hi
    refine takeW 11 26 (.bool rb) rfl rfl (by kernel_rfl) (by kernel_rfl) (by kernel_rfl) (fun _ _ _ h => h) (by kernel_rfl) (by (intro w hSw; go_simp)) (by assumption) ?_
    simp only [List.set_cons_zero, List.set_cons_succ]
    refine takeW 12 4 (.bool rb) rfl rfl (by kernel_rfl) (by kernel_rfl) (by kernel_rfl) (fun _ _ _ h => h) (by kernel_rfl) (by (intro w hSw; go_simp)) (by assumption) ?_
    simp only [List.set_cons_zero, List.set_cons_succ]
    refine wpAnyH_done (by kernel_rfl) ?_ _
    have B := B.trans (hb1.mono B.size)
    go_wp2
    go_ret
    exact ⟨YN.is (by rw [hQ.out]; exact hrb.out), B⟩
  · have d1 : decide ((m.m.lg.length : Int) ≥ (x.ln.length : Int)) = false := decide_eq_false (by omega)
    have d1' : decide ((x.ln.length : Int) ≤ (m.m.lg.length : Int)) = false := decide_eq_false (by omega)
    have d1'' : decide (x.ln.length ≤ m.m.lg.length) = false := decide_eq_false hle
    replace hle : Hid (¬ x.ln.length ≤ m.m.lg.length) := hle
    go_upto_region 2 with fail
    refine wp_region_held (S := fun Y => Below u1.heap.size u1 Y) (by kernel_rfl) ?_
    change wpAnyH _ _ _ _ _ _ _ _ (World.drew _)
    have hb0 : Below u1.heap.size u1 u1.drew := (Below.refl _ _).drew
    obtain ⟨u0, hu0⟩ : ∃ y_, y_ = u1.drew := ⟨_, rfl⟩
    rw [← hu0] at hb0 ⊢
    clear hu0
    refine takeW 0 15 (.slice m.ad m.m.lg.length m.cap) rfl rfl (by kernel_rfl) (by kernel_rfl) (by kernel_rfl) (fun _ _ _ h => h) (by kernel_rfl) (by (intro w hSw; go_simp)) (by assumption) ?_
    simp only [List.set_cons_zero, List.set_cons_succ]
    refine takeW 1 16 (.int .i64 (m.m.lg.length : Int)) rfl rfl (by kernel_rfl) (by kernel_rfl) (by kernel_rfl) (fun _ _ _ h => h) (by kernel_rfl) (by (intro w hSw; go_simp)) (by assumption) ?_
    simp only [List.set_cons_zero, List.set_cons_succ]
    refine takeW 2 17 (.int .i64 (x.ln.length : Int)) rfl rfl (by kernel_rfl) (by kernel_rfl) (by kernel_rfl) (fun _ _ _ h => h) (by kernel_rfl) (by (intro w hSw; go_simp)) (by assumption) ?_
    simp only [List.set_cons_zero, List.set_cons_succ]
    refine takeW 3 18 (.bool false) rfl rfl (by kernel_rfl) (by kernel_rfl) (by kernel_rfl) (fun _ _ _ h => h) (by kernel_rfl) (by (intro w hSw; go_simp)) (by assumption) ?_
    simp only [List.set_cons_zero, List.set_cons_succ]
    refine takeW 4 19 (.bool false) rfl rfl (by kernel_rfl) (by kernel_rfl) (by kernel_rfl) (fun _ _ _ h => h) (by kernel_rfl) (by (intro w hSw; go_simp)) (by assumption) ?_
    simp only [List.set_cons_zero, List.set_cons_succ]
    refine takeS 5 20 rfl rfl (by kernel_rfl) (by kernel_rfl) (by kernel_rfl) (fun _ _ _ h => h) (by kernel_rfl) (by assumption) ?_
    simp only [List.set_cons_zero, List.set_cons_succ]
    refine takeS 6 21 rfl rfl (by kernel_rfl) (by kernel_rfl) (by kernel_rfl) (fun _ _ _ h => h) (by kernel_rfl) (by assumption) ?_
    simp only [List.set_cons_zero, List.set_cons_succ]
    refine takeS 7 22 rfl rfl (by kernel_rfl) (by kernel_rfl) (by kernel_rfl) (fun _ _ _ h => h) (by kernel_rfl) (by assumption) ?_
    simp only [List.set_cons_zero, List.set_cons_succ]
    refine takeS 8 23 rfl rfl (by kernel_rfl) (by kernel_rfl) (by kernel_rfl) (fun _ _ _ h => h) (by kernel_rfl) (by assumption) ?_
    simp only [List.set_cons_zero, List.set_cons_succ]
    refine takeS 9 24 rfl rfl (by kernel_rfl) (by kernel_rfl) (by kernel_rfl) (fun _ _ _ h => h) (by kernel_rfl) (by assumption) ?_
    simp only [List.set_cons_zero, List.set_cons_succ]
    refine takeS 10 25 rfl rfl (by kernel_rfl) (by kernel_rfl) (by kernel_rfl) (fun _ _ _ h => h) (by kernel_rfl) (by assumption) ?_
    simp only [List.set_cons_zero, List.set_cons_succ]
    refine takeW 11 26 (.bool false) rfl rfl (by kernel_rfl) (by kernel_rfl) (by kernel_rfl) (fun _ _ _ h => h) (by kernel_rfl) (by (intro w hSw; go_simp)) (by assumption) ?_
    simp only [List.set_cons_zero, List.set_cons_succ]
    refine takeW 12 4 (.bool false) rfl rfl (by kernel_rfl) (by kernel_rfl) (by kernel_rfl) (fun _ _ _ h => h) (by kernel_rfl) (by (intro w hSw; go_simp)) (by assumption) ?_
    simp only [List.set_cons_zero, List.set_cons_succ]
    refine wpAnyH_done (by kernel_rfl) ?_ _
    have B := B.trans (hb0.mono B.size)
    go_wp2
    go_ret
    exact ⟨YN.no (fun q_ => hle.out (begJ_len (by rw [← hQ.out]; exact q_))), B⟩
set_option linter.unusedSimpArgs false in
set_option maxHeartbeats 4000000 in
theorem heirI (x : BxD) (w : World) (hJ : BxJ w x) (hb : bxOk x.p = true) :
    Calls Tryz.prog 101 #[.agg #[.int .i64 x.id, .int .i64 x.po, .int .i64 x.rg.ep, .int .i64 x.rg.ow, .int .i64 x.rg.pa, .slice x.aT x.two.length x.cT, .slice x.aN x.net.length x.cN, .slice x.aG x.ga.length x.cG, .slice x.aL x.ln.length x.cL, .slice x.aS x.sd.length x.cS]] w fun e w' => YN e (hasJ x.p) ∧ Below w.heap.size w w' := by
  obtain ⟨Q, hQ⟩ : ∃ Q : Prop, Q = (hasJ x.p) := ⟨_, rfl⟩
  rw [← hQ]
  replace hQ : Hid _ := hQ
  obtain ⟨y, hy⟩ : ∃ y, y = w.alloc (Obj.cells #[.int .i64 x.id, .int .i64 x.po, .int .i64 x.rg.ep, .int .i64 x.rg.ow, .int .i64 x.rg.pa, .slice x.aT x.two.length x.cT, .slice x.aN x.net.length x.cN, .slice x.aG x.ga.length x.cG, .slice x.aL x.ln.length x.cL, .slice x.aS x.sd.length x.cS] 48) := ⟨_, rfl⟩
  have B : Below w.heap.size w y := by rw [hy]; exact below_new _
  have A : BxAt y w.heap.size x := by rw [hy]; exact BxAt.new w _ x
  have J := hJ.later B
  obtain ⟨o0, o1⟩ := bxOk_ow hb
  obtain ⟨k, hk⟩ : ∃ k : Nat, 1 - x.rg.ow = (k : Int) := ⟨(1 - x.rg.ow).toNat, by omega⟩
  have hk2 : k < 2 := by omega
  have hwr : IntKind.i64.wrap (1 - x.rg.ow) = (k : Int) := by rw [IntKind.wrap_i64]; omega
  have hmo : mOf x.p (1 - x.rg.ow) = (x.two.getD k MiD.nil).m := by rw [hk, mOf_p]; simp only [Int.toNat_natCast]
  have hQ2 : Hid (Q ↔ (pairJ x.p → begJ x.ln (x.two.getD k MiD.nil).m.lg)) := by unfold Hid; rw [hQ.out]; unfold hasJ; show (pairJ x.p → begJ x.ln (mOf x.p (1 - x.rg.ow)).lg) ↔ _; rw [hmo]
  clear hQ hmo hk o0 o1 hJ
  replace hb : Hid _ := hb
  go_enter Tryz.func101, Tryz.ntmps101
  go_upto_region 1 with fail
  rw [← hy]
  clear hy
  have cc := A
  obtain ⟨a0, a1, a2, a3, a4, a5, a6, a7, a8, a9⟩ := cc
  go_wp2_with fail
  go_at_call 102
  clear a0 a1 a2 a3 a4 a5 a6 a7 a8 a9
  refine (pairedI x y J hb.out).mono ?_
  rintro e u1 ⟨⟨rb, rfl, hrb⟩, kq⟩
  have A := A.below kq A.lt
  have J := J.later kq
  have B := B.trans (kq.mono B.size)
  clear kq
  replace hrb : Hid _ := hrb
  cases rb
  · go_wp2
    go_ret
    exact ⟨YN.yes (hQ2.out.2 (fun p => by have := hrb.out.2 p; first | cases this | exact absurd this id)), B⟩
  · have cc := A
    obtain ⟨a0, a1, a2, a3, a4, a5, a6, a7, a8, a9⟩ := cc
    go_wp2_with fail
    go_at_call 159
    clear a0 a1 a2 a3 a4 a5 a6 a7 a8 a9
    refine (beginsI x k hk2 u1 J hb.out).mono ?_
    rintro e u2 ⟨⟨rc, rfl, hrc⟩, kq⟩
    have B := B.trans (kq.mono B.size)
    clear kq
    replace hrc : Hid _ := hrc
    go_wp2
    go_ret
    exact ⟨YN.is (by rw [hrc.out, hQ2.out]; exact ⟨fun h _ => h, fun h => h (by first | exact hrb.out.1 rfl | exact hrb.out.1 trivial)⟩), B⟩

end Go.Proofs.YtnpiljegdiconaaGreat
namespace Go.Proofs.YtnpiljegdiconaaGreat
open Go.ChangeShapes Go.WideShapes Go.ChangeAt Go.RowKit
open Go.ChangeMaps (open_string shut_string)
set_option linter.unusedVariables false
set_option maxRecDepth 100000

set_option linter.unusedSimpArgs false in
set_option maxHeartbeats 8000000 in
theorem jGatesS (x : BxD) (w : World) (hJ : BxJ w x) :
    Calls Tryz.prog 45 #[.agg #[.int .i64 x.id, .int .i64 x.po, .int .i64 x.rg.ep, .int .i64 x.rg.ow, .int .i64 x.rg.pa, .slice x.aT x.two.length x.cT, .slice x.aN x.net.length x.cN, .slice x.aG x.ga.length x.cG, .slice x.aL x.ln.length x.cL, .slice x.aS x.sd.length x.cS]] w fun e w' => YN e (bxOk x.p = true ∧ gatesJ x.p) ∧ Below w.heap.size w w' := by
  obtain ⟨Q, hQ⟩ : ∃ Q : Prop, Q = (bxOk x.p = true ∧ gatesJ x.p) := ⟨_, rfl⟩
  rw [← hQ]
  replace hQ : Hid _ := hQ
  obtain ⟨y, hy⟩ : ∃ y, y = w.alloc (Obj.cells #[.int .i64 x.id, .int .i64 x.po, .int .i64 x.rg.ep, .int .i64 x.rg.ow, .int .i64 x.rg.pa, .slice x.aT x.two.length x.cT, .slice x.aN x.net.length x.cN, .slice x.aG x.ga.length x.cG, .slice x.aL x.ln.length x.cL, .slice x.aS x.sd.length x.cS] 48) := ⟨_, rfl⟩
  have B : Below w.heap.size w y := by rw [hy]; exact below_new _
  have A : BxAt y w.heap.size x := by rw [hy]; exact BxAt.new w _ x
  have J := hJ.later B
  go_enter Tryz.func45, Tryz.ntmps45
  go_upto_region 1 with fail
  rw [← hy]
  clear hy
  have cc := A
  obtain ⟨a0, a1, a2, a3, a4, a5, a6, a7, a8, a9⟩ := cc
  go_wp2_with fail
  go_at_call 33
  clear a0 a1 a2 a3 a4 a5 a6 a7 a8 a9
  refine (boxOkS x y J.v).mono ?_
  rintro e u1 ⟨rfl, kq⟩
  have A := A.below kq A.lt
  have J := J.later kq
  have B := B.trans (kq.mono B.size)
  clear kq
  obtain ⟨ob, hob⟩ : ∃ b, bxOk x.p = b := ⟨_, rfl⟩
  rw [hob]
  cases ob
  · replace hob : Hid _ := hob
    go_wp2
    go_ret
    exact ⟨YN.no (fun q_ => by have h1 := (hQ.out ▸ q_ : bxOk x.p = true ∧ gatesJ x.p).1; rw [hob.out] at h1; cases h1), B⟩
  have hb := hob
  have hln : x.ln.length ≤ 60 := (bxOk_smJ hb).2.2.2.2.1
  have hga : x.ga.length ≤ 4 := (bxOk_smJ hb).2.2.2.1
  have hQ2 : Hid (Q ↔ gatesR (ofR x.id x.po x.ln) = x.ga) := by unfold Hid; rw [hQ.out]; exact ⟨fun h => h.2, fun h => ⟨hb, h⟩⟩
  have hR4 := ofR_len x.id x.po x.ln
  have hG4 := gatesR_len (ofR x.id x.po x.ln)
  obtain ⟨I, hI⟩ : ∃ v, newI x.id x.po = v := ⟨_, rfl⟩
  obtain ⟨D, hD⟩ : ∃ v, ofR x.id x.po x.ln = v := ⟨_, rfl⟩
  rw [hD] at hQ2 hR4 hG4
  obtain ⟨G, hG⟩ : ∃ v, gatesR D = v := ⟨_, rfl⟩
  rw [hG] at hQ2 hG4
  have hG5 : G.length ≤ 4 := by omega
  replace hI : Hid _ := hI
  replace hD : Hid _ := hD
  replace hG : Hid _ := hG
  replace hb : Hid _ := hb
  clear hQ hob hG4
  have cc := A
  obtain ⟨a0, a1, a2, a3, a4, a5, a6, a7, a8, a9⟩ := cc
  go_wp2_with fail
  go_at_call 103
  clear a0 a1 a2 a3 a4 a5 a6 a7 a8 a9
  refine (bofS x.id x.po x.aL x.cL x.ln u1 J.v.i (by omega)).mono ?_
  rintro e u2 ⟨a1, c1, rfl, O1, kq⟩
  rw [hD.out] at O1
  rw [hI.out, hD.out]
  have A := A.below kq A.lt
  have J := J.later kq
  have B := B.trans (kq.mono B.size)
  clear kq
  go_wp2_with fail
  go_at_call 74
  refine (gatesS12 I a1 c1 D u2 O1.view.2 (by omega)).mono ?_
  rintro e u3 ⟨a2, c2, rfl, O2, kq⟩
  rw [hG.out] at O2 ⊢
  have A := A.below kq A.lt
  have J := J.later kq
  have B := B.trans (kq.mono B.size)
  have VG := O2.view.2
  have VX := J.v.g
  clear kq O1 O2 J
  have hBg := VG.lt boEnc_len (by omega)
  have hBx := VX.lt boEnc_len (by omega)
  replace hI : True := trivial
  clear hD hG
  go_upto_region 5 with fail
  go_loopw [4] (fun i wr => ∃ k : Nat, k ≤ G.length ∧ k ≤ x.ga.length ∧ i = .int .i64 (k : Int) ∧ Hid (∀ j, j < k → G.getD j false = x.ga.getD j false) ∧ Below u3.heap.size u3 wr) (fun i _ => G.length - (intOf i).toNat)
  case atStart => exact ⟨0, Nat.zero_le _, Nat.zero_le _, rfl, fun j hj => absurd hj (by omega), Below.refl _ _⟩
  case round =>
    obtain ⟨k, hk, hk', rfl, hF, hb9⟩ := hrel
    have A := A.below hb9 A.lt
    have B := B.trans (hb9.mono B.size)
    have cc := A
    obtain ⟨a0, a1, a2, a3, a4, a5, a6, a7, a8, a9⟩ := cc
    by_cases hlt : k < G.length
    · have d1 : decide ((k : Int) < (G.length : Int)) = true := decide_eq_true (by omega)
      by_cases hlt' : k < x.ga.length
      · have d2 : decide ((k : Int) < (x.ga.length : Int)) = true := decide_eq_true (by omega)
        obtain ⟨b, off, rfl, _⟩ := VG (by omega)
        obtain ⟨b', off', hat, _⟩ := VX (by omega)
        obtain ⟨h, hh⟩ : ∃ h, G.getD k false = h := ⟨_, rfl⟩
        obtain ⟨h', hh'⟩ : ∃ h, x.ga.getD k false = h := ⟨_, rfl⟩
        have hc : ∀ Y, Below wr.heap.size wr Y → Y.cell? ⟨b, off + k, none⟩ = some (.bool h) := fun Y hY => by have h1 := (VG.below (hb9.trans (hY.mono hb9.size)) hBg).at_ boEnc_len false hlt 0 (.bool (G.getD k false)) rfl; rw [hh] at h1; simpa using h1
        have hc' : ∀ Y, Below wr.heap.size wr Y → Y.cell? ⟨b', off' + k, none⟩ = some (.bool h') := fun Y hY => by have h0 := VX.below (hb9.trans (hY.mono hb9.size)) hBx; rw [hat] at h0; have h1 := h0.at_ boEnc_len false hlt' 0 (.bool (x.ga.getD k false)) rfl; rw [hh'] at h1; simpa using h1
        replace hh : Hid _ := hh
        replace hh' : Hid _ := hh'
        replace hat : Hid _ := hat
        clear VG VX hBg hBx
        by_cases he : h = h'
        · have heq : ∀ w, (binOp .neq 4 (.bool h) (.bool h')).run Tryz.prog w = .ok (.bool false) w := fun w => by subst he; exact neqBo_same h w
          replace he : Hid _ := he
          go_upto_region 7 with fail
          clear a0 a1 a2 a3 a4 a5 a6 a7 a8 a9
          refine wp_region_held (S := fun Y => Below wr.heap.size wr Y) (by kernel_rfl) ?_
          change wpAnyH _ _ _ _ _ _ _ _ (World.drew _)
          have hb0 : Below wr.heap.size wr wr.drew := (Below.refl _ _).drew
          obtain ⟨u0, hu0⟩ : ∃ y_, y_ = wr.drew := ⟨_, rfl⟩
          rw [← hu0] at hb0 ⊢
          clear hu0
          refine takeW 0 29 (.slice (some ⟨b, off, none⟩) G.length c2) rfl rfl (by kernel_rfl) (by kernel_rfl) (by kernel_rfl) (fun _ _ _ h => h) (by kernel_rfl) (by (intro w hSw; go_simp)) (by assumption) ?_
          simp only [List.set_cons_zero, List.set_cons_succ]
          refine takeW 1 30 (.int .i64 (k : Int)) rfl rfl (by kernel_rfl) (by kernel_rfl) (by kernel_rfl) (fun _ _ _ h => h) (by kernel_rfl) (by (intro w hSw; go_simp)) (by assumption) ?_
          simp only [List.set_cons_zero, List.set_cons_succ]
          refine takeW 2 31 (.pointer (some ⟨b, off + k, none⟩)) rfl rfl (by kernel_rfl) (by kernel_rfl) (by kernel_rfl) (fun _ _ _ h => h) (by kernel_rfl) (by (intro Y hSw; go_simp; try omega)) (by assumption) ?_
          simp only [List.set_cons_zero, List.set_cons_succ]
          refine takeW 3 32 (.bool h) rfl rfl (by kernel_rfl) (by kernel_rfl) (by kernel_rfl) (fun _ _ _ h => h) (by kernel_rfl) (by (intro Y hSw; have X0 := hc Y hSw; go_simp)) (by assumption) ?_
          simp only [List.set_cons_zero, List.set_cons_succ]
          refine takeW 4 33 (.pointer (some ⟨w.heap.size, 7, none⟩)) rfl rfl (by kernel_rfl) (by kernel_rfl) (by kernel_rfl) (fun _ _ _ h => h) (by kernel_rfl) (by (intro w hSw; go_simp)) (by assumption) ?_
          simp only [List.set_cons_zero, List.set_cons_succ]
          refine takeW 5 34 (.slice (some ⟨b', off', none⟩) x.ga.length x.cG) rfl rfl (by kernel_rfl) (by kernel_rfl) (by kernel_rfl) (fun _ _ _ h => h) (by kernel_rfl) (by (intro Y hSw; obtain ⟨X0, X1, X2, X3, X4, X5, X6, X7, X8, X9⟩ := A.below hSw A.lt; rw [hat.out] at X7; go_simp)) (by assumption) ?_
          simp only [List.set_cons_zero, List.set_cons_succ]
          refine takeW 6 35 (.int .i64 (k : Int)) rfl rfl (by kernel_rfl) (by kernel_rfl) (by kernel_rfl) (fun _ _ _ h => h) (by kernel_rfl) (by (intro w hSw; go_simp)) (by assumption) ?_
          simp only [List.set_cons_zero, List.set_cons_succ]
          refine takeW 7 36 (.pointer (some ⟨b', off' + k, none⟩)) rfl rfl (by kernel_rfl) (by kernel_rfl) (by kernel_rfl) (fun _ _ _ h => h) (by kernel_rfl) (by (intro Y hSw; go_simp; try omega)) (by assumption) ?_
          simp only [List.set_cons_zero, List.set_cons_succ]
          refine takeW 8 37 (.bool h') rfl rfl (by kernel_rfl) (by kernel_rfl) (by kernel_rfl) (fun _ _ _ h => h) (by kernel_rfl) (by (intro Y hSw; have X0 := hc' Y hSw; go_simp)) (by assumption) ?_
          simp only [List.set_cons_zero, List.set_cons_succ]
          refine takeW 9 38 (.bool false) rfl rfl (by kernel_rfl) (by kernel_rfl) (by kernel_rfl) (fun _ _ _ h => h) (by kernel_rfl) (by (intro w hSw; have hq := heq w; go_simp)) (by assumption) ?_
          simp only [List.set_cons_zero, List.set_cons_succ]
          refine wpAnyH_done (by kernel_rfl) ?_ _
          go_wp2
          go_roundw
          case rel =>
            refine ⟨k + 1, by omega, by omega, by go_num, fun j hj => ?_, hb9.trans (hb0.mono hb9.size)⟩
            by_cases ej : j = k
            · rw [ej, hh.out, hh'.out]; exact he.out
            · exact hF.out j (by omega)
          case measure => simp [intOf]; omega
        · have heq : ∀ w, (binOp .neq 4 (.bool h) (.bool h')).run Tryz.prog w = .ok (.bool true) w := fun w => neqBo_else he w
          replace he : Hid (¬ h = h') := he
          go_upto_region 7 with fail
          clear a0 a1 a2 a3 a4 a5 a6 a7 a8 a9
          refine wp_region_held (S := fun Y => Below wr.heap.size wr Y) (by kernel_rfl) ?_
          change wpAnyH _ _ _ _ _ _ _ _ (World.drew _)
          have hb0 : Below wr.heap.size wr wr.drew := (Below.refl _ _).drew
          obtain ⟨u0, hu0⟩ : ∃ y_, y_ = wr.drew := ⟨_, rfl⟩
          rw [← hu0] at hb0 ⊢
          clear hu0
          refine takeW 0 29 (.slice (some ⟨b, off, none⟩) G.length c2) rfl rfl (by kernel_rfl) (by kernel_rfl) (by kernel_rfl) (fun _ _ _ h => h) (by kernel_rfl) (by (intro w hSw; go_simp)) (by assumption) ?_
          simp only [List.set_cons_zero, List.set_cons_succ]
          refine takeW 1 30 (.int .i64 (k : Int)) rfl rfl (by kernel_rfl) (by kernel_rfl) (by kernel_rfl) (fun _ _ _ h => h) (by kernel_rfl) (by (intro w hSw; go_simp)) (by assumption) ?_
          simp only [List.set_cons_zero, List.set_cons_succ]
          refine takeW 2 31 (.pointer (some ⟨b, off + k, none⟩)) rfl rfl (by kernel_rfl) (by kernel_rfl) (by kernel_rfl) (fun _ _ _ h => h) (by kernel_rfl) (by (intro Y hSw; go_simp; try omega)) (by assumption) ?_
          simp only [List.set_cons_zero, List.set_cons_succ]
          refine takeW 3 32 (.bool h) rfl rfl (by kernel_rfl) (by kernel_rfl) (by kernel_rfl) (fun _ _ _ h => h) (by kernel_rfl) (by (intro Y hSw; have X0 := hc Y hSw; go_simp)) (by assumption) ?_
          simp only [List.set_cons_zero, List.set_cons_succ]
          refine takeW 4 33 (.pointer (some ⟨w.heap.size, 7, none⟩)) rfl rfl (by kernel_rfl) (by kernel_rfl) (by kernel_rfl) (fun _ _ _ h => h) (by kernel_rfl) (by (intro w hSw; go_simp)) (by assumption) ?_
          simp only [List.set_cons_zero, List.set_cons_succ]
          refine takeW 5 34 (.slice (some ⟨b', off', none⟩) x.ga.length x.cG) rfl rfl (by kernel_rfl) (by kernel_rfl) (by kernel_rfl) (fun _ _ _ h => h) (by kernel_rfl) (by (intro Y hSw; obtain ⟨X0, X1, X2, X3, X4, X5, X6, X7, X8, X9⟩ := A.below hSw A.lt; rw [hat.out] at X7; go_simp)) (by assumption) ?_
          simp only [List.set_cons_zero, List.set_cons_succ]
          refine takeW 6 35 (.int .i64 (k : Int)) rfl rfl (by kernel_rfl) (by kernel_rfl) (by kernel_rfl) (fun _ _ _ h => h) (by kernel_rfl) (by (intro w hSw; go_simp)) (by assumption) ?_
          simp only [List.set_cons_zero, List.set_cons_succ]
          refine takeW 7 36 (.pointer (some ⟨b', off' + k, none⟩)) rfl rfl (by kernel_rfl) (by kernel_rfl) (by kernel_rfl) (fun _ _ _ h => h) (by kernel_rfl) (by (intro Y hSw; go_simp; try omega)) (by assumption) ?_
          simp only [List.set_cons_zero, List.set_cons_succ]
          refine takeW 8 37 (.bool h') rfl rfl (by kernel_rfl) (by kernel_rfl) (by kernel_rfl) (fun _ _ _ h => h) (by kernel_rfl) (by (intro Y hSw; have X0 := hc' Y hSw; go_simp)) (by assumption) ?_
          simp only [List.set_cons_zero, List.set_cons_succ]
          refine takeW 9 38 (.bool true) rfl rfl (by kernel_rfl) (by kernel_rfl) (by kernel_rfl) (fun _ _ _ h => h) (by kernel_rfl) (by (intro w hSw; have hq := heq w; go_simp)) (by assumption) ?_
          simp only [List.set_cons_zero, List.set_cons_succ]
          refine wpAnyH_done (by kernel_rfl) ?_ _
          have B := B.trans (hb0.mono B.size)
          go_wp2
          go_ret
          exact ⟨YN.no (fun q_ => he.out (hh.out.symm.trans ((congrArg (fun z => z.getD k false) (hQ2.out.1 q_)).trans hh'.out))), B⟩
      · have d2 : decide ((k : Int) < (x.ga.length : Int)) = false := decide_eq_false (by omega)
        have d3 : ((G.length : Int) == (x.ga.length : Int)) = false := by rw [beq_eq_false_iff_ne]; omega
        have d3' : (G.length == x.ga.length) = false := by rw [beq_eq_false_iff_ne]; omega
        have hn : Hid (¬ G.length = x.ga.length) := by unfold Hid; omega
        go_wp2
        go_ret
        exact ⟨YN.no (fun q_ => hn.out (congrArg List.length (hQ2.out.1 q_))), B⟩
    · obtain rfl : k = G.length := by omega
      have d1 : decide ((G.length : Int) < (G.length : Int)) = false := decide_eq_false (by omega)
      by_cases hn : G.length = x.ga.length
      · have d3 : ((G.length : Int) == (x.ga.length : Int)) = true := by rw [beq_iff_eq]; omega
        have d3' : (G.length == x.ga.length) = true := by rw [beq_iff_eq]; exact hn
        replace hn : Hid _ := hn
        go_wp2
        go_ret
        exact ⟨YN.yes (hQ2.out.2 (by apply List.ext_getElem hn.out; intro i h1 h2; have h3 := hF.out i h1; rw [List.getD_eq_getElem?_getD, List.getD_eq_getElem?_getD, List.getElem?_eq_getElem h1, List.getElem?_eq_getElem h2] at h3; exact h3)), B⟩
      · have d3 : ((G.length : Int) == (x.ga.length : Int)) = false := by rw [beq_eq_false_iff_ne]; omega
        have d3' : (G.length == x.ga.length) = false := by rw [beq_eq_false_iff_ne]; exact hn
        replace hn : Hid (¬ G.length = x.ga.length) := hn
        go_wp2
        go_ret
        exact ⟨YN.no (fun q_ => hn.out (congrArg List.length (hQ2.out.1 q_))), B⟩

end Go.Proofs.YtnpiljegdiconaaGreat
namespace Go.Proofs.YtnpiljegdiconaaGreat
open Go.ChangeShapes Go.WideShapes Go.ChangeAt Go.RowKit
open Go.ChangeMaps (open_string shut_string)
set_option linter.unusedVariables false
set_option maxRecDepth 100000

theorem numFitsI (n : Int) (w : World) : Calls Tryz.prog 72 #[.int .i64 n] w fun e w' => e = .returned (.bool (numB n)) ∧ w' = w := by
  obtain ⟨R, hR⟩ : ∃ R, R = numB n := ⟨_, rfl⟩
  rw [← hR]
  replace hR : Hid _ := hR
  by_cases h1 : 0 ≤ n
  · have d1 : decide (0 ≤ n) = true := decide_eq_true h1
    have hN : Hid (R = decide (n ≤ 100000)) := by unfold Hid; rw [hR.out]; unfold numB; by_cases h2 : n ≤ 100000 <;> simp [h1, h2]
    clear hR
    go_enter Tryz.func72, Tryz.ntmps72
    go_wp2
    go_ret
    exact ⟨by rw [hN.out]; rfl, rfl⟩
  · have d1 : decide (0 ≤ n) = false := decide_eq_false h1
    have hN : Hid (R = false) := by unfold Hid; rw [hR.out]; unfold numB; simp [h1]
    clear hR
    go_enter Tryz.func72, Tryz.ntmps72
    go_wp2
    go_ret
    exact ⟨by rw [hN.out]; rfl, rfl⟩
set_option maxHeartbeats 1000000 in
theorem cloneK (ad : Option Addr) (cap : Nat) (L : List Ik) (w : World) (hv : FView ikEnc w ad L) (hl : L.length ≤ 1048577) :
    Calls Tryz.prog 150 #[.slice ad L.length cap] w fun e w' => ∃ ad' cap', e = .returned (.slice ad' L.length cap') ∧ FOwn ikEnc 8 105 w.heap.size w' (.slice ad' L.length cap') L ∧ Below w.heap.size w w' := by
  obtain ⟨i1, hj, hy0, hy1, hy2⟩ := info_parts ikInfo
  cases ad with
  | none =>
    obtain rfl := hv.none_nil
    have hEq : ∀ (y : World) (c : Nat), (binOp .eql 26 (.slice none 0 c) (.slice none 0 0)).run Tryz.prog y = .ok (.bool true) y := fun y c => Go.Lib.run_eql_slice_nil y 26 105 none 0 c 0 0 Tryz.underlying26
    simp only [List.length_nil]
    go_enter Tryz.func150, Tryz.ntmps150
    go_wp2
    go_ret
    exact ⟨_, _, rfl, FOwn.nil, Below.refl _ _⟩
  | some a =>
    have hB := hv.lt ikEnc_len (by omega)
    have B0 := below_new (w := w) (Obj.cells #[] 105)
    have hv1 : FView ikEnc (w.alloc (Obj.cells #[] 105)) (some a) L := hv.below B0 hB
    have hEq : ∀ (y : World), (binOp .eql 26 (.slice (some a) L.length cap) (.slice none 0 0)).run Tryz.prog y = .ok (.bool false) y := fun y => Go.Lib.run_eql_slice_nil y 26 105 (some a) L.length cap 0 0 Tryz.underlying26
    go_enter Tryz.func150, Tryz.ntmps150
    go_wp2_with (first | (at_builtin; refine fappL ikEnc_len ikEnc_ones rfl _ _ 26 rfl w.heap.size 105 i1 (.agg #[.int .i64 0, .int .i64 0, .int .i64 0, .int .i64 0, .int .i64 0, .int .i64 0, .int .i64 0, .bool false]) 64 Tryz.underlying26 hj hy0 hy1 hy2 rfl (by decide) (by decide) _ ([] : List Ik) rfl (FOwn.empty w) (some a) cap L rfl (fun e => by cases e) hv1 ?z0 ?z1 ?_) | go_in)
    case z0 => simp; omega
    case z1 => simp
    intro vZ wZ hownZ hgrowZ _
    have BZ : Below w.heap.size w wZ := B0.grown hgrowZ (by simp) (fun j e => ((FOwn.empty w : FOwn ikEnc 8 105 _ _ _ _).lt j e).1)
    replace hownZ : FOwn ikEnc 8 105 w.heap.size wZ vZ L := hownZ
    obtain ⟨adZ, capZ, rfl⟩ := hownZ.open_
    clear hgrowZ B0 hv1
    go_wp2
    go_ret
    exact ⟨_, _, rfl, hownZ, BZ⟩
set_option maxHeartbeats 1000000 in
theorem jourI (ad : Option Addr) (cap : Nat) (L : List Ik) (w : World) (hv : FView ikEnc w ad L) (hl : L.length ≤ 1048577) :
    Calls Tryz.prog 125 #[.slice ad L.length cap] w fun e w' => ∃ a c, e = .returned (.agg #[.slice a L.length c]) ∧ FOwn ikEnc 8 105 w.heap.size w' (.slice a L.length c) L ∧ Below w.heap.size w w' := by
  have hB := hv.lt ikEnc_len (by omega)
  obtain ⟨y, hy⟩ : ∃ y, y = w.alloc (Obj.cells #[.slice none 0 0] 160) := ⟨_, rfl⟩
  have B0 : Below w.heap.size w y := by rw [hy]; exact below_new _
  have c0 : y.cell? ⟨w.heap.size, 0, none⟩ = some (.slice none 0 0) := by rw [hy]; simp [go_sem]
  have f0 : y.frozen? ⟨w.heap.size, 0, none⟩ = false := by rw [hy]; simp [go_sem]
  have S0 := World.block_lt_of_cell? _ _ c0
  go_enter Tryz.func125, Tryz.ntmps125
  go_wp2_with fail
  go_at_call 150
  rw [← hy]
  clear hy
  refine (cloneK ad cap L y (hv.below B0 hB) hl).mono ?_
  rintro e w1 ⟨a1, c1, rfl, O1, k1⟩
  have B1 := B0.trans (k1.mono B0.size)
  have c0 := (World.cell?_of_block (a := ⟨w.heap.size, 0, none⟩) (k1.block _ S0)).trans c0
  have f0 := (World.frozen?_of_block (a := ⟨w.heap.size, 0, none⟩) (k1.block _ S0)).trans f0
  have hne : ∀ g, (Value.slice a1 L.length c1).ownBlock = some g → g ≠ w.heap.size := fun g e => by have := (O1.lt g e).1; omega
  have O2 : FOwn ikEnc 8 105 w.heap.size (w1.setCell ⟨w.heap.size, 0, none⟩ (.slice a1 L.length c1)) (.slice a1 L.length c1) L := (O1.base B0.size).keep fun g e => Below.heap_setCell _ _ _ _ (hne g e)
  have B2 := B1.setCell (p := ⟨w.heap.size, 0, none⟩) (Nat.le_refl _) (.slice a1 L.length c1)
  clear k1 B0 hv hB O1 B1 hne
  go_wp2
  refine bodyPost_ret (v := .agg #[.slice a1 L.length c1]) (by simp [results, Tryz.results125, go_sem, *]) rfl ⟨_, _, rfl, O2, B2⟩
set_option maxHeartbeats 2000000 in
theorem mindOf (m : Mi) (ad : Option Addr) (cap : Nat) (w : World) (hv : FView ikEnc w ad m.lg) (hl : m.lg.length ≤ 1048577) :
    Calls Tryz.prog 56 #[.agg #[.bool m.up, .int .i64 m.li, .int .i64 m.ep, .slice ad m.lg.length cap, .int .i64 m.sd, .int .i64 m.ac, .int .i64 m.al]] w fun e w' => ∃ q a c, e = .returned (.pointer (some ⟨q, 0, none⟩)) ∧ MgBox w' q m (.slice a m.lg.length c) ∧ FOwn ikEnc 8 105 w.heap.size w' (.slice a m.lg.length c) m.lg ∧ (∀ g, (Value.slice a m.lg.length c).ownBlock = some g → g < q) ∧ w.heap.size < q ∧ Below w.heap.size w w' := by
  have hB := hv.lt ikEnc_len (by omega)
  obtain ⟨y, hy⟩ : ∃ y, y = w.alloc (Obj.cells #[.bool m.up, .int .i64 m.li, .int .i64 m.ep, .slice ad m.lg.length cap, .int .i64 m.sd, .int .i64 m.ac, .int .i64 m.al] 28) := ⟨_, rfl⟩
  have B0 : Below w.heap.size w y := by rw [hy]; exact below_new _
  have A : MiAt y w.heap.size m (.slice ad m.lg.length cap) := by rw [hy]; exact MiAt.new w _ _ _
  have S0 := A.lt
  have hv1 := hv.below B0 hB
  go_enter Tryz.func56, Tryz.ntmps56
  go_upto_region 1 with fail
  rw [← hy]
  clear hy
  refine wp_region_held (S := fun Y => Below y.heap.size y Y) (by kernel_rfl) ?_
  change wpAnyH _ _ _ _ _ _ _ _ (World.drew _)
  have hb0 : Below y.heap.size y y.drew := (Below.refl _ _).drew
  obtain ⟨u0, hy0⟩ : ∃ y_, y_ = y.drew := ⟨_, rfl⟩
  rw [← hy0] at hb0 ⊢
  clear hy0
  refine takeW 0 3 (.pointer (some ⟨w.heap.size, 3, none⟩)) rfl rfl (by kernel_rfl) (by kernel_rfl) (by kernel_rfl) (fun _ _ _ h => h) (by kernel_rfl) (by (intro w hSw; go_simp)) (by assumption) ?_
  simp only [List.set_cons_zero, List.set_cons_succ]
  refine takeW 1 4 (.slice ad m.lg.length cap) rfl rfl (by kernel_rfl) (by kernel_rfl) (by kernel_rfl) (fun _ _ _ h => h) (by kernel_rfl) (by (intro Y hSw; obtain ⟨X0, X1, X2, X3, X4, X5, X6⟩ := A.below hSw (by omega); go_simp)) (by assumption) ?_
  simp only [List.set_cons_zero, List.set_cons_succ]
  refine takeW 3 6 (.pointer (some ⟨w.heap.size, 0, none⟩)) rfl rfl (by kernel_rfl) (by kernel_rfl) (by kernel_rfl) (fun _ _ _ h => h) (by kernel_rfl) (by (intro w hSw; go_simp)) (by assumption) ?_
  simp only [List.set_cons_zero, List.set_cons_succ]
  refine takeW 4 7 (.bool m.up) rfl rfl (by kernel_rfl) (by kernel_rfl) (by kernel_rfl) (fun _ _ _ h => h) (by kernel_rfl) (by (intro Y hSw; obtain ⟨X0, X1, X2, X3, X4, X5, X6⟩ := A.below hSw (by omega); go_simp)) (by assumption) ?_
  simp only [List.set_cons_zero, List.set_cons_succ]
  refine takeW 5 8 (.pointer (some ⟨w.heap.size, 1, none⟩)) rfl rfl (by kernel_rfl) (by kernel_rfl) (by kernel_rfl) (fun _ _ _ h => h) (by kernel_rfl) (by (intro w hSw; go_simp)) (by assumption) ?_
  simp only [List.set_cons_zero, List.set_cons_succ]
  refine takeW 6 9 (.int .i64 m.li) rfl rfl (by kernel_rfl) (by kernel_rfl) (by kernel_rfl) (fun _ _ _ h => h) (by kernel_rfl) (by (intro Y hSw; obtain ⟨X0, X1, X2, X3, X4, X5, X6⟩ := A.below hSw (by omega); go_simp)) (by assumption) ?_
  simp only [List.set_cons_zero, List.set_cons_succ]
  refine takeW 7 10 (.pointer (some ⟨w.heap.size, 2, none⟩)) rfl rfl (by kernel_rfl) (by kernel_rfl) (by kernel_rfl) (fun _ _ _ h => h) (by kernel_rfl) (by (intro w hSw; go_simp)) (by assumption) ?_
  simp only [List.set_cons_zero, List.set_cons_succ]
  refine takeW 8 11 (.int .i64 m.ep) rfl rfl (by kernel_rfl) (by kernel_rfl) (by kernel_rfl) (fun _ _ _ h => h) (by kernel_rfl) (by (intro Y hSw; obtain ⟨X0, X1, X2, X3, X4, X5, X6⟩ := A.below hSw (by omega); go_simp)) (by assumption) ?_
  simp only [List.set_cons_zero, List.set_cons_succ]
  refine takeW 9 12 (.pointer (some ⟨w.heap.size, 4, none⟩)) rfl rfl (by kernel_rfl) (by kernel_rfl) (by kernel_rfl) (fun _ _ _ h => h) (by kernel_rfl) (by (intro w hSw; go_simp)) (by assumption) ?_
  simp only [List.set_cons_zero, List.set_cons_succ]
  refine takeW 10 13 (.int .i64 m.sd) rfl rfl (by kernel_rfl) (by kernel_rfl) (by kernel_rfl) (fun _ _ _ h => h) (by kernel_rfl) (by (intro Y hSw; obtain ⟨X0, X1, X2, X3, X4, X5, X6⟩ := A.below hSw (by omega); go_simp)) (by assumption) ?_
  simp only [List.set_cons_zero, List.set_cons_succ]
  refine takeW 11 14 (.pointer (some ⟨w.heap.size, 5, none⟩)) rfl rfl (by kernel_rfl) (by kernel_rfl) (by kernel_rfl) (fun _ _ _ h => h) (by kernel_rfl) (by (intro w hSw; go_simp)) (by assumption) ?_
  simp only [List.set_cons_zero, List.set_cons_succ]
  refine takeW 12 15 (.int .i64 m.ac) rfl rfl (by kernel_rfl) (by kernel_rfl) (by kernel_rfl) (fun _ _ _ h => h) (by kernel_rfl) (by (intro Y hSw; obtain ⟨X0, X1, X2, X3, X4, X5, X6⟩ := A.below hSw (by omega); go_simp)) (by assumption) ?_
  simp only [List.set_cons_zero, List.set_cons_succ]
  refine takeW 13 16 (.pointer (some ⟨w.heap.size, 6, none⟩)) rfl rfl (by kernel_rfl) (by kernel_rfl) (by kernel_rfl) (fun _ _ _ h => h) (by kernel_rfl) (by (intro w hSw; go_simp)) (by assumption) ?_
  simp only [List.set_cons_zero, List.set_cons_succ]
  refine takeW 14 17 (.int .i64 m.al) rfl rfl (by kernel_rfl) (by kernel_rfl) (by kernel_rfl) (fun _ _ _ h => h) (by kernel_rfl) (by (intro Y hSw; obtain ⟨X0, X1, X2, X3, X4, X5, X6⟩ := A.below hSw (by omega); go_simp)) (by assumption) ?_
  simp only [List.set_cons_zero, List.set_cons_succ]
  refine takeW 15 18 (.agg #[.bool m.up, .int .i64 m.li, .int .i64 m.ep, .int .i64 m.sd, .int .i64 m.ac, .int .i64 m.al]) rfl rfl (by kernel_rfl) (by kernel_rfl) (by kernel_rfl) (fun _ _ _ h => h) (by kernel_rfl) (by (intro w hSw; go_simp)) (by assumption) ?_
  simp only [List.set_cons_zero, List.set_cons_succ]
  refine wpAnyH_all (rs := [2]) (by kernel_rfl) (by simp) ?_
  intro i hi; obtain rfl : i = 2 := by simpa using hi
  refine wpOp_step rfl (fun Kz hKz => ?_)
  rw [if_pos (by kernel_rfl)]
  go_simp
  go_at_call 125
  refine (jourI ad cap m.lg u0 (hv1.below hb0 (hv1.lt ikEnc_len (by omega))) hl).mono ?_
  rintro e u1 ⟨a1, c1, rfl, O1, kq⟩
  have hb1 : Below y.heap.size y u1 := hb0.trans (kq.mono hb0.size)
  clear kq
  refine hKz _ _ ⟨hb1, ?_⟩
  clear hKz Kz hi
  refine takeW 16 19 (.agg #[.slice a1 m.lg.length c1, .bool m.up, .int .i64 m.li, .int .i64 m.ep, .int .i64 m.sd, .int .i64 m.ac, .int .i64 m.al]) rfl rfl (by kernel_rfl) (by kernel_rfl) (by kernel_rfl) (fun _ _ _ h => h) (by kernel_rfl) (by (intro w hSw; go_simp)) (by assumption) ?_
  simp only [List.set_cons_zero, List.set_cons_succ]
  refine wpAnyH_all (rs := [17]) (by kernel_rfl) (by simp) ?_
  intro i hi; obtain rfl : i = 17 := by simpa using hi
  refine wpOp_step rfl (fun Kz hKz => ?_)
  rw [if_pos (by kernel_rfl)]
  go_simp
  obtain ⟨u2, hu⟩ : ∃ u, u = u1.alloc (Obj.cells #[.slice a1 m.lg.length c1, .bool m.up, .int .i64 m.li, .int .i64 m.ep, .int .i64 m.sd, .int .i64 m.ac, .int .i64 m.al] 165) := ⟨_, rfl⟩
  have kq : Below u1.heap.size u1 u2 := by rw [hu]; exact below_new _
  have M2 : MgBox u2 u1.heap.size m (.slice a1 m.lg.length c1) := by rw [hu]; exact MgBox.new u1 _ _ _
  have hb2 : Below y.heap.size y u2 := hb1.trans (kq.mono hb1.size)
  have O2 := O1.later kq
  have lo := O1.lt
  have hb1s := hb1.size
  obtain ⟨q, hq⟩ : ∃ q, q = u1.heap.size := ⟨_, rfl⟩
  rw [← hq] at M2 lo hb1s ⊢
  rw [← hu]
  clear hu kq hq
  refine hKz _ _ ⟨hb2, ?_⟩
  clear hKz Kz hi
  refine takeW 18 2 (.pointer (some ⟨q, 0, none⟩)) rfl rfl (by kernel_rfl) (by kernel_rfl) (by kernel_rfl) (fun _ _ _ h => h) (by kernel_rfl) (by (intro w hSw; go_simp)) (by assumption) ?_
  simp only [List.set_cons_zero, List.set_cons_succ]
  refine wpAnyH_done (by kernel_rfl) ?_ _
  have hO := O1.lt
  go_wp2
  go_ret
  exact ⟨q, a1, c1, rfl, M2, O2.base (Nat.le_trans B0.size hb0.size), fun g e => (lo g e).2, by omega, B0.trans (hb2.mono B0.size)⟩

end Go.Proofs.YtnpiljegdiconaaGreat
namespace Go.Proofs.YtnpiljegdiconaaGreat
open Go.ChangeShapes Go.WideShapes Go.ChangeAt Go.RowKit
open Go.ChangeMaps (open_string shut_string)
set_option linter.unusedVariables false
set_option maxRecDepth 100000

/-- What fits asks. -/
def fitsM (m : Mi) : Bool :=
  numB m.li && (numB m.ep && (numB m.al && (decide ((m.lg.length : Int) ≤ 60) && (m.lg.all inOk && (decide (0 ≤ m.sd ∧ m.sd ≤ (m.lg.length : Int)) && decide (0 ≤ m.ac ∧ m.ac ≤ (m.lg.length : Int)))))))
set_option maxHeartbeats 4000000 in
theorem fitsI (m : Mi) (q : Nat) (ad : Option Addr) (cap : Nat) (w : World) (M : MgBox w q m (.slice ad m.lg.length cap)) (hv : FView ikEnc w ad m.lg) (hl : m.lg.length ≤ 1048577) :
    Calls Tryz.prog 126 #[.pointer (some ⟨q, 0, none⟩)] w fun e w' => e = .returned (.bool (fitsM m)) ∧ Below w.heap.size w w' := by
  obtain ⟨R, hR⟩ : ∃ R, R = fitsM m := ⟨_, rfl⟩
  rw [← hR]
  replace hR : Hid _ := hR
  go_enter Tryz.func126, Tryz.ntmps126
  go_upto_region 1 with fail
  refine wp_region_held (S := fun Y => Below w.heap.size w Y) (by kernel_rfl) ?_
  change wpAnyH _ _ _ _ _ _ _ _ (World.drew _)
  have hb0 : Below w.heap.size w w.drew := (Below.refl _ _).drew
  obtain ⟨u0, hy0⟩ : ∃ y_, y_ = w.drew := ⟨_, rfl⟩
  rw [← hy0] at hb0 ⊢
  clear hy0
  refine takeW 0 3 (.pointer (some ⟨q, 0, none⟩)) rfl rfl (by kernel_rfl) (by kernel_rfl) (by kernel_rfl) (fun _ _ _ h => h) (by kernel_rfl) (by (intro w hSw; go_simp)) (by assumption) ?_
  simp only [List.set_cons_zero, List.set_cons_succ]
  refine takeW 1 4 (.pointer (some ⟨q, 0, none⟩)) rfl rfl (by kernel_rfl) (by kernel_rfl) (by kernel_rfl) (fun _ _ _ h => h) (by kernel_rfl) (by (intro w hSw; go_simp)) (by assumption) ?_
  simp only [List.set_cons_zero, List.set_cons_succ]
  refine takeW 2 5 (.pointer (some ⟨q, 1, none⟩)) rfl rfl (by kernel_rfl) (by kernel_rfl) (by kernel_rfl) (fun _ _ _ h => h) (by kernel_rfl) (by (intro w hSw; go_simp)) (by assumption) ?_
  simp only [List.set_cons_zero, List.set_cons_succ]
  refine takeW 3 6 (.pointer (some ⟨q, 2, none⟩)) rfl rfl (by kernel_rfl) (by kernel_rfl) (by kernel_rfl) (fun _ _ _ h => h) (by kernel_rfl) (by (intro w hSw; go_simp)) (by assumption) ?_
  simp only [List.set_cons_zero, List.set_cons_succ]
  refine takeW 4 7 (.int .i64 m.li) rfl rfl (by kernel_rfl) (by kernel_rfl) (by kernel_rfl) (fun _ _ _ h => h) (by kernel_rfl) (by (intro Y hSw; obtain ⟨X0, X1, X2, X3, X4, X5, X6, XF⟩ := M.below hSw M.lt; go_simp)) (by assumption) ?_
  simp only [List.set_cons_zero, List.set_cons_succ]
  refine wpAnyH_all (rs := [5]) (by kernel_rfl) (by simp) ?_
  intro i hi; obtain rfl : i = 5 := by simpa using hi
  refine wpOp_step rfl (fun Kz hKz => ?_)
  rw [if_pos (by kernel_rfl)]
  go_simp
  go_at_call 72
  refine (numFitsI m.li u0).mono ?_
  rintro e u1 ⟨rfl, kq⟩
  replace kq : Below u0.heap.size u0 u1 := by rw [kq]; exact Below.refl _ _
  have hb1 : Below w.heap.size w u1 := hb0.trans (kq.mono hb0.size)
  clear kq
  refine hKz _ _ ⟨hb1, ?_⟩
  clear hKz Kz hi
  cases h_li : (numB m.li)
  · replace h_li : Hid _ := h_li
    refine takeW 6 9 (.bool false) rfl rfl (by kernel_rfl) (by kernel_rfl) (by kernel_rfl) (fun _ _ _ h => h) (by kernel_rfl) (by (intro w hSw; go_simp)) (by assumption) ?_
    simp only [List.set_cons_zero, List.set_cons_succ]
    refine takeS 7 10 rfl rfl (by kernel_rfl) (by kernel_rfl) (by kernel_rfl) (fun _ _ _ h => h) (by kernel_rfl) (by assumption) ?_
    simp only [List.set_cons_zero, List.set_cons_succ]
    refine takeS 8 11 rfl rfl (by kernel_rfl) (by kernel_rfl) (by kernel_rfl) (fun _ _ _ h => h) (by kernel_rfl) (by assumption) ?_
    simp only [List.set_cons_zero, List.set_cons_succ]
    refine takeS 9 12 rfl rfl (by kernel_rfl) (by kernel_rfl) (by kernel_rfl) (fun _ _ _ h => h) (by kernel_rfl) (by assumption) ?_
    simp only [List.set_cons_zero, List.set_cons_succ]
    refine takeS 10 13 rfl rfl (by kernel_rfl) (by kernel_rfl) (by kernel_rfl) (fun _ _ _ h => h) (by kernel_rfl) (by assumption) ?_
    simp only [List.set_cons_zero, List.set_cons_succ]
    refine takeS 11 14 rfl rfl (by kernel_rfl) (by kernel_rfl) (by kernel_rfl) (fun _ _ _ h => h) (by kernel_rfl) (by assumption) ?_
    simp only [List.set_cons_zero, List.set_cons_succ]
    refine takeS 12 15 rfl rfl (by kernel_rfl) (by kernel_rfl) (by kernel_rfl) (fun _ _ _ h => h) (by kernel_rfl) (by assumption) ?_
    simp only [List.set_cons_zero, List.set_cons_succ]
    refine takeW 13 16 (.bool false) rfl rfl (by kernel_rfl) (by kernel_rfl) (by kernel_rfl) (fun _ _ _ h => h) (by kernel_rfl) (by (intro w hSw; go_simp)) (by assumption) ?_
    simp only [List.set_cons_zero, List.set_cons_succ]
    refine takeW 14 17 (.bool false) rfl rfl (by kernel_rfl) (by kernel_rfl) (by kernel_rfl) (fun _ _ _ h => h) (by kernel_rfl) (by (intro w hSw; go_simp)) (by assumption) ?_
    simp only [List.set_cons_zero, List.set_cons_succ]
    refine takeS 15 18 rfl rfl (by kernel_rfl) (by kernel_rfl) (by kernel_rfl) (fun _ _ _ h => h) (by kernel_rfl) (by assumption) ?_
    simp only [List.set_cons_zero, List.set_cons_succ]
    refine takeS 16 19 rfl rfl (by kernel_rfl) (by kernel_rfl) (by kernel_rfl) (fun _ _ _ h => h) (by kernel_rfl) (by assumption) ?_
    simp only [List.set_cons_zero, List.set_cons_succ]
    refine takeS 17 20 rfl rfl (by kernel_rfl) (by kernel_rfl) (by kernel_rfl) (fun _ _ _ h => h) (by kernel_rfl) (by assumption) ?_
    simp only [List.set_cons_zero, List.set_cons_succ]
    refine takeS 18 21 rfl rfl (by kernel_rfl) (by kernel_rfl) (by kernel_rfl) (fun _ _ _ h => h) (by kernel_rfl) (by assumption) ?_
    simp only [List.set_cons_zero, List.set_cons_succ]
    refine takeS 19 22 rfl rfl (by kernel_rfl) (by kernel_rfl) (by kernel_rfl) (fun _ _ _ h => h) (by kernel_rfl) (by assumption) ?_
    simp only [List.set_cons_zero, List.set_cons_succ]
    refine takeS 20 23 rfl rfl (by kernel_rfl) (by kernel_rfl) (by kernel_rfl) (fun _ _ _ h => h) (by kernel_rfl) (by assumption) ?_
    simp only [List.set_cons_zero, List.set_cons_succ]
    refine takeW 21 24 (.bool false) rfl rfl (by kernel_rfl) (by kernel_rfl) (by kernel_rfl) (fun _ _ _ h => h) (by kernel_rfl) (by (intro w hSw; go_simp)) (by assumption) ?_
    simp only [List.set_cons_zero, List.set_cons_succ]
    refine takeW 22 25 (.bool false) rfl rfl (by kernel_rfl) (by kernel_rfl) (by kernel_rfl) (fun _ _ _ h => h) (by kernel_rfl) (by (intro w hSw; go_simp)) (by assumption) ?_
    simp only [List.set_cons_zero, List.set_cons_succ]
    refine takeS 23 26 rfl rfl (by kernel_rfl) (by kernel_rfl) (by kernel_rfl) (fun _ _ _ h => h) (by kernel_rfl) (by assumption) ?_
    simp only [List.set_cons_zero, List.set_cons_succ]
    refine takeS 24 27 rfl rfl (by kernel_rfl) (by kernel_rfl) (by kernel_rfl) (fun _ _ _ h => h) (by kernel_rfl) (by assumption) ?_
    simp only [List.set_cons_zero, List.set_cons_succ]
    refine takeS 25 28 rfl rfl (by kernel_rfl) (by kernel_rfl) (by kernel_rfl) (fun _ _ _ h => h) (by kernel_rfl) (by assumption) ?_
    simp only [List.set_cons_zero, List.set_cons_succ]
    refine takeS 26 29 rfl rfl (by kernel_rfl) (by kernel_rfl) (by kernel_rfl) (fun _ _ _ h => h) (by kernel_rfl) (by assumption) ?_
    simp only [List.set_cons_zero, List.set_cons_succ]
    refine takeS 27 30 rfl rfl (by kernel_rfl) (by kernel_rfl) (by kernel_rfl) (fun _ _ _ h => h) (by kernel_rfl) (by assumption) ?_
    simp only [List.set_cons_zero, List.set_cons_succ]
    refine takeW 28 31 (.bool false) rfl rfl (by kernel_rfl) (by kernel_rfl) (by kernel_rfl) (fun _ _ _ h => h) (by kernel_rfl) (by (intro w hSw; go_simp)) (by assumption) ?_
    simp only [List.set_cons_zero, List.set_cons_succ]
    refine takeW 29 32 (.bool false) rfl rfl (by kernel_rfl) (by kernel_rfl) (by kernel_rfl) (fun _ _ _ h => h) (by kernel_rfl) (by (intro w hSw; go_simp)) (by assumption) ?_
    simp only [List.set_cons_zero, List.set_cons_succ]
    refine takeS 30 33 rfl rfl (by kernel_rfl) (by kernel_rfl) (by kernel_rfl) (fun _ _ _ h => h) (by kernel_rfl) (by assumption) ?_
    simp only [List.set_cons_zero, List.set_cons_succ]
    refine takeS 31 34 rfl rfl (by kernel_rfl) (by kernel_rfl) (by kernel_rfl) (fun _ _ _ h => h) (by kernel_rfl) (by assumption) ?_
    simp only [List.set_cons_zero, List.set_cons_succ]
    refine takeS 32 35 rfl rfl (by kernel_rfl) (by kernel_rfl) (by kernel_rfl) (fun _ _ _ h => h) (by kernel_rfl) (by assumption) ?_
    simp only [List.set_cons_zero, List.set_cons_succ]
    refine takeS 33 36 rfl rfl (by kernel_rfl) (by kernel_rfl) (by kernel_rfl) (fun _ _ _ h => h) (by kernel_rfl) (by assumption) ?_
    simp only [List.set_cons_zero, List.set_cons_succ]
    refine takeW 34 37 (.bool false) rfl rfl (by kernel_rfl) (by kernel_rfl) (by kernel_rfl) (fun _ _ _ h => h) (by kernel_rfl) (by (intro w hSw; go_simp)) (by assumption) ?_
    simp only [List.set_cons_zero, List.set_cons_succ]
    refine takeW 35 38 (.bool false) rfl rfl (by kernel_rfl) (by kernel_rfl) (by kernel_rfl) (fun _ _ _ h => h) (by kernel_rfl) (by (intro w hSw; go_simp)) (by assumption) ?_
    simp only [List.set_cons_zero, List.set_cons_succ]
    refine takeS 36 39 rfl rfl (by kernel_rfl) (by kernel_rfl) (by kernel_rfl) (fun _ _ _ h => h) (by kernel_rfl) (by assumption) ?_
    simp only [List.set_cons_zero, List.set_cons_succ]
    refine takeS 37 40 rfl rfl (by kernel_rfl) (by kernel_rfl) (by kernel_rfl) (fun _ _ _ h => h) (by kernel_rfl) (by assumption) ?_
    simp only [List.set_cons_zero, List.set_cons_succ]
    refine takeS 38 41 rfl rfl (by kernel_rfl) (by kernel_rfl) (by kernel_rfl) (fun _ _ _ h => h) (by kernel_rfl) (by assumption) ?_
    simp only [List.set_cons_zero, List.set_cons_succ]
    refine takeS 39 42 rfl rfl (by kernel_rfl) (by kernel_rfl) (by kernel_rfl) (fun _ _ _ h => h) (by kernel_rfl) (by assumption) ?_
    simp only [List.set_cons_zero, List.set_cons_succ]
    refine takeS 40 43 rfl rfl (by kernel_rfl) (by kernel_rfl) (by kernel_rfl) (fun _ _ _ h => h) (by kernel_rfl) (by assumption) ?_
    simp only [List.set_cons_zero, List.set_cons_succ]
    refine takeS 41 44 rfl rfl (by kernel_rfl) (by kernel_rfl) (by kernel_rfl) (fun _ _ _ h => h) (by kernel_rfl) (by assumption) ?_
    simp only [List.set_cons_zero, List.set_cons_succ]
    refine takeS 42 45 rfl rfl (by kernel_rfl) (by kernel_rfl) (by kernel_rfl) (fun _ _ _ h => h) (by kernel_rfl) (by assumption) ?_
    simp only [List.set_cons_zero, List.set_cons_succ]
    refine takeS 43 46 rfl rfl (by kernel_rfl) (by kernel_rfl) (by kernel_rfl) (fun _ _ _ h => h) (by kernel_rfl) (by assumption) ?_
    simp only [List.set_cons_zero, List.set_cons_succ]
    refine takeS 44 47 rfl rfl (by kernel_rfl) (by kernel_rfl) (by kernel_rfl) (fun _ _ _ h => h) (by kernel_rfl) (by assumption) ?_
    simp only [List.set_cons_zero, List.set_cons_succ]
    refine takeW 45 48 (.bool false) rfl rfl (by kernel_rfl) (by kernel_rfl) (by kernel_rfl) (fun _ _ _ h => h) (by kernel_rfl) (by (intro w hSw; go_simp)) (by assumption) ?_
    simp only [List.set_cons_zero, List.set_cons_succ]
    refine takeW 46 49 (.bool false) rfl rfl (by kernel_rfl) (by kernel_rfl) (by kernel_rfl) (fun _ _ _ h => h) (by kernel_rfl) (by (intro w hSw; go_simp)) (by assumption) ?_
    simp only [List.set_cons_zero, List.set_cons_succ]
    refine takeS 47 50 rfl rfl (by kernel_rfl) (by kernel_rfl) (by kernel_rfl) (fun _ _ _ h => h) (by kernel_rfl) (by assumption) ?_
    simp only [List.set_cons_zero, List.set_cons_succ]
    refine takeS 48 51 rfl rfl (by kernel_rfl) (by kernel_rfl) (by kernel_rfl) (fun _ _ _ h => h) (by kernel_rfl) (by assumption) ?_
    simp only [List.set_cons_zero, List.set_cons_succ]
    refine takeS 49 52 rfl rfl (by kernel_rfl) (by kernel_rfl) (by kernel_rfl) (fun _ _ _ h => h) (by kernel_rfl) (by assumption) ?_
    simp only [List.set_cons_zero, List.set_cons_succ]
    refine takeS 50 53 rfl rfl (by kernel_rfl) (by kernel_rfl) (by kernel_rfl) (fun _ _ _ h => h) (by kernel_rfl) (by assumption) ?_
    simp only [List.set_cons_zero, List.set_cons_succ]
    refine takeS 51 54 rfl rfl (by kernel_rfl) (by kernel_rfl) (by kernel_rfl) (fun _ _ _ h => h) (by kernel_rfl) (by assumption) ?_
    simp only [List.set_cons_zero, List.set_cons_succ]
    refine takeS 52 55 rfl rfl (by kernel_rfl) (by kernel_rfl) (by kernel_rfl) (fun _ _ _ h => h) (by kernel_rfl) (by assumption) ?_
    simp only [List.set_cons_zero, List.set_cons_succ]
    refine takeS 53 56 rfl rfl (by kernel_rfl) (by kernel_rfl) (by kernel_rfl) (fun _ _ _ h => h) (by kernel_rfl) (by assumption) ?_
    simp only [List.set_cons_zero, List.set_cons_succ]
    refine takeS 54 57 rfl rfl (by kernel_rfl) (by kernel_rfl) (by kernel_rfl) (fun _ _ _ h => h) (by kernel_rfl) (by assumption) ?_
    simp only [List.set_cons_zero, List.set_cons_succ]
    refine takeS 55 58 rfl rfl (by kernel_rfl) (by kernel_rfl) (by kernel_rfl) (fun _ _ _ h => h) (by kernel_rfl) (by assumption) ?_
    simp only [List.set_cons_zero, List.set_cons_succ]
    refine takeW 56 59 (.bool false) rfl rfl (by kernel_rfl) (by kernel_rfl) (by kernel_rfl) (fun _ _ _ h => h) (by kernel_rfl) (by (intro w hSw; go_simp)) (by assumption) ?_
    simp only [List.set_cons_zero, List.set_cons_succ]
    refine takeW 57 2 (.bool false) rfl rfl (by kernel_rfl) (by kernel_rfl) (by kernel_rfl) (fun _ _ _ h => h) (by kernel_rfl) (by (intro w hSw; go_simp)) (by assumption) ?_
    simp only [List.set_cons_zero, List.set_cons_succ]
    refine wpAnyH_done (by kernel_rfl) ?_ _
    have hN : Hid (R = false) := by unfold Hid; rw [hR.out]; unfold fitsM; rw [h_li.out]; rfl
    go_wp2
    go_ret
    exact ⟨by rw [hN.out]; rfl, hb1⟩
  · replace h_li : Hid _ := h_li
    refine takeW 6 9 (.bool true) rfl rfl (by kernel_rfl) (by kernel_rfl) (by kernel_rfl) (fun _ _ _ h => h) (by kernel_rfl) (by (intro w hSw; go_simp)) (by assumption) ?_
    simp only [List.set_cons_zero, List.set_cons_succ]
    refine takeW 7 10 (.pointer (some ⟨q, 0, none⟩)) rfl rfl (by kernel_rfl) (by kernel_rfl) (by kernel_rfl) (fun _ _ _ h => h) (by kernel_rfl) (by (intro w hSw; go_simp)) (by assumption) ?_
    simp only [List.set_cons_zero, List.set_cons_succ]
    refine takeW 8 11 (.pointer (some ⟨q, 0, none⟩)) rfl rfl (by kernel_rfl) (by kernel_rfl) (by kernel_rfl) (fun _ _ _ h => h) (by kernel_rfl) (by (intro w hSw; go_simp)) (by assumption) ?_
    simp only [List.set_cons_zero, List.set_cons_succ]
    refine takeW 9 12 (.pointer (some ⟨q, 1, none⟩)) rfl rfl (by kernel_rfl) (by kernel_rfl) (by kernel_rfl) (fun _ _ _ h => h) (by kernel_rfl) (by (intro w hSw; go_simp)) (by assumption) ?_
    simp only [List.set_cons_zero, List.set_cons_succ]
    refine takeW 10 13 (.pointer (some ⟨q, 3, none⟩)) rfl rfl (by kernel_rfl) (by kernel_rfl) (by kernel_rfl) (fun _ _ _ h => h) (by kernel_rfl) (by (intro w hSw; go_simp)) (by assumption) ?_
    simp only [List.set_cons_zero, List.set_cons_succ]
    refine takeW 11 14 (.int .i64 m.ep) rfl rfl (by kernel_rfl) (by kernel_rfl) (by kernel_rfl) (fun _ _ _ h => h) (by kernel_rfl) (by (intro Y hSw; obtain ⟨X0, X1, X2, X3, X4, X5, X6, XF⟩ := M.below hSw M.lt; go_simp)) (by assumption) ?_
    simp only [List.set_cons_zero, List.set_cons_succ]
    refine wpAnyH_all (rs := [12]) (by kernel_rfl) (by simp) ?_
    intro i hi; obtain rfl : i = 12 := by simpa using hi
    refine wpOp_step rfl (fun Kz hKz => ?_)
    rw [if_pos (by kernel_rfl)]
    go_simp
    go_at_call 72
    refine (numFitsI m.ep u1).mono ?_
    rintro e u2 ⟨rfl, kq⟩
    replace kq : Below u1.heap.size u1 u2 := by rw [kq]; exact Below.refl _ _
    have hb2 : Below w.heap.size w u2 := hb1.trans (kq.mono hb1.size)
    clear kq
    refine hKz _ _ ⟨hb2, ?_⟩
    clear hKz Kz hi
    cases h_ep : (numB m.ep)
    · replace h_ep : Hid _ := h_ep
      refine takeW 13 16 (.bool false) rfl rfl (by kernel_rfl) (by kernel_rfl) (by kernel_rfl) (fun _ _ _ h => h) (by kernel_rfl) (by (intro w hSw; go_simp)) (by assumption) ?_
      simp only [List.set_cons_zero, List.set_cons_succ]
      refine takeW 14 17 (.bool false) rfl rfl (by kernel_rfl) (by kernel_rfl) (by kernel_rfl) (fun _ _ _ h => h) (by kernel_rfl) (by (intro w hSw; go_simp)) (by assumption) ?_
      simp only [List.set_cons_zero, List.set_cons_succ]
      refine takeS 15 18 rfl rfl (by kernel_rfl) (by kernel_rfl) (by kernel_rfl) (fun _ _ _ h => h) (by kernel_rfl) (by assumption) ?_
      simp only [List.set_cons_zero, List.set_cons_succ]
      refine takeS 16 19 rfl rfl (by kernel_rfl) (by kernel_rfl) (by kernel_rfl) (fun _ _ _ h => h) (by kernel_rfl) (by assumption) ?_
      simp only [List.set_cons_zero, List.set_cons_succ]
      refine takeS 17 20 rfl rfl (by kernel_rfl) (by kernel_rfl) (by kernel_rfl) (fun _ _ _ h => h) (by kernel_rfl) (by assumption) ?_
      simp only [List.set_cons_zero, List.set_cons_succ]
      refine takeS 18 21 rfl rfl (by kernel_rfl) (by kernel_rfl) (by kernel_rfl) (fun _ _ _ h => h) (by kernel_rfl) (by assumption) ?_
      simp only [List.set_cons_zero, List.set_cons_succ]
      refine takeS 19 22 rfl rfl (by kernel_rfl) (by kernel_rfl) (by kernel_rfl) (fun _ _ _ h => h) (by kernel_rfl) (by assumption) ?_
      simp only [List.set_cons_zero, List.set_cons_succ]
      refine takeS 20 23 rfl rfl (by kernel_rfl) (by kernel_rfl) (by kernel_rfl) (fun _ _ _ h => h) (by kernel_rfl) (by assumption) ?_
      simp only [List.set_cons_zero, List.set_cons_succ]
      refine takeW 21 24 (.bool false) rfl rfl (by kernel_rfl) (by kernel_rfl) (by kernel_rfl) (fun _ _ _ h => h) (by kernel_rfl) (by (intro w hSw; go_simp)) (by assumption) ?_
      simp only [List.set_cons_zero, List.set_cons_succ]
      refine takeW 22 25 (.bool false) rfl rfl (by kernel_rfl) (by kernel_rfl) (by kernel_rfl) (fun _ _ _ h => h) (by kernel_rfl) (by (intro w hSw; go_simp)) (by assumption) ?_
      simp only [List.set_cons_zero, List.set_cons_succ]
      refine takeS 23 26 rfl rfl (by kernel_rfl) (by kernel_rfl) (by kernel_rfl) (fun _ _ _ h => h) (by kernel_rfl) (by assumption) ?_
      simp only [List.set_cons_zero, List.set_cons_succ]
      refine takeS 24 27 rfl rfl (by kernel_rfl) (by kernel_rfl) (by kernel_rfl) (fun _ _ _ h => h) (by kernel_rfl) (by assumption) ?_
      simp only [List.set_cons_zero, List.set_cons_succ]
      refine takeS 25 28 rfl rfl (by kernel_rfl) (by kernel_rfl) (by kernel_rfl) (fun _ _ _ h => h) (by kernel_rfl) (by assumption) ?_
      simp only [List.set_cons_zero, List.set_cons_succ]
      refine takeS 26 29 rfl rfl (by kernel_rfl) (by kernel_rfl) (by kernel_rfl) (fun _ _ _ h => h) (by kernel_rfl) (by assumption) ?_
      simp only [List.set_cons_zero, List.set_cons_succ]
      refine takeS 27 30 rfl rfl (by kernel_rfl) (by kernel_rfl) (by kernel_rfl) (fun _ _ _ h => h) (by kernel_rfl) (by assumption) ?_
      simp only [List.set_cons_zero, List.set_cons_succ]
      refine takeW 28 31 (.bool false) rfl rfl (by kernel_rfl) (by kernel_rfl) (by kernel_rfl) (fun _ _ _ h => h) (by kernel_rfl) (by (intro w hSw; go_simp)) (by assumption) ?_
      simp only [List.set_cons_zero, List.set_cons_succ]
      refine takeW 29 32 (.bool false) rfl rfl (by kernel_rfl) (by kernel_rfl) (by kernel_rfl) (fun _ _ _ h => h) (by kernel_rfl) (by (intro w hSw; go_simp)) (by assumption) ?_
      simp only [List.set_cons_zero, List.set_cons_succ]
      refine takeS 30 33 rfl rfl (by kernel_rfl) (by kernel_rfl) (by kernel_rfl) (fun _ _ _ h => h) (by kernel_rfl) (by assumption) ?_
      simp only [List.set_cons_zero, List.set_cons_succ]
      refine takeS 31 34 rfl rfl (by kernel_rfl) (by kernel_rfl) (by kernel_rfl) (fun _ _ _ h => h) (by kernel_rfl) (by assumption) ?_
      simp only [List.set_cons_zero, List.set_cons_succ]
      refine takeS 32 35 rfl rfl (by kernel_rfl) (by kernel_rfl) (by kernel_rfl) (fun _ _ _ h => h) (by kernel_rfl) (by assumption) ?_
      simp only [List.set_cons_zero, List.set_cons_succ]
      refine takeS 33 36 rfl rfl (by kernel_rfl) (by kernel_rfl) (by kernel_rfl) (fun _ _ _ h => h) (by kernel_rfl) (by assumption) ?_
      simp only [List.set_cons_zero, List.set_cons_succ]
      refine takeW 34 37 (.bool false) rfl rfl (by kernel_rfl) (by kernel_rfl) (by kernel_rfl) (fun _ _ _ h => h) (by kernel_rfl) (by (intro w hSw; go_simp)) (by assumption) ?_
      simp only [List.set_cons_zero, List.set_cons_succ]
      refine takeW 35 38 (.bool false) rfl rfl (by kernel_rfl) (by kernel_rfl) (by kernel_rfl) (fun _ _ _ h => h) (by kernel_rfl) (by (intro w hSw; go_simp)) (by assumption) ?_
      simp only [List.set_cons_zero, List.set_cons_succ]
      refine takeS 36 39 rfl rfl (by kernel_rfl) (by kernel_rfl) (by kernel_rfl) (fun _ _ _ h => h) (by kernel_rfl) (by assumption) ?_
      simp only [List.set_cons_zero, List.set_cons_succ]
      refine takeS 37 40 rfl rfl (by kernel_rfl) (by kernel_rfl) (by kernel_rfl) (fun _ _ _ h => h) (by kernel_rfl) (by assumption) ?_
      simp only [List.set_cons_zero, List.set_cons_succ]
      refine takeS 38 41 rfl rfl (by kernel_rfl) (by kernel_rfl) (by kernel_rfl) (fun _ _ _ h => h) (by kernel_rfl) (by assumption) ?_
      simp only [List.set_cons_zero, List.set_cons_succ]
      refine takeS 39 42 rfl rfl (by kernel_rfl) (by kernel_rfl) (by kernel_rfl) (fun _ _ _ h => h) (by kernel_rfl) (by assumption) ?_
      simp only [List.set_cons_zero, List.set_cons_succ]
      refine takeS 40 43 rfl rfl (by kernel_rfl) (by kernel_rfl) (by kernel_rfl) (fun _ _ _ h => h) (by kernel_rfl) (by assumption) ?_
      simp only [List.set_cons_zero, List.set_cons_succ]
      refine takeS 41 44 rfl rfl (by kernel_rfl) (by kernel_rfl) (by kernel_rfl) (fun _ _ _ h => h) (by kernel_rfl) (by assumption) ?_
      simp only [List.set_cons_zero, List.set_cons_succ]
      refine takeS 42 45 rfl rfl (by kernel_rfl) (by kernel_rfl) (by kernel_rfl) (fun _ _ _ h => h) (by kernel_rfl) (by assumption) ?_
      simp only [List.set_cons_zero, List.set_cons_succ]
      refine takeS 43 46 rfl rfl (by kernel_rfl) (by kernel_rfl) (by kernel_rfl) (fun _ _ _ h => h) (by kernel_rfl) (by assumption) ?_
      simp only [List.set_cons_zero, List.set_cons_succ]
      refine takeS 44 47 rfl rfl (by kernel_rfl) (by kernel_rfl) (by kernel_rfl) (fun _ _ _ h => h) (by kernel_rfl) (by assumption) ?_
      simp only [List.set_cons_zero, List.set_cons_succ]
      refine takeW 45 48 (.bool false) rfl rfl (by kernel_rfl) (by kernel_rfl) (by kernel_rfl) (fun _ _ _ h => h) (by kernel_rfl) (by (intro w hSw; go_simp)) (by assumption) ?_
      simp only [List.set_cons_zero, List.set_cons_succ]
      refine takeW 46 49 (.bool false) rfl rfl (by kernel_rfl) (by kernel_rfl) (by kernel_rfl) (fun _ _ _ h => h) (by kernel_rfl) (by (intro w hSw; go_simp)) (by assumption) ?_
      simp only [List.set_cons_zero, List.set_cons_succ]
      refine takeS 47 50 rfl rfl (by kernel_rfl) (by kernel_rfl) (by kernel_rfl) (fun _ _ _ h => h) (by kernel_rfl) (by assumption) ?_
      simp only [List.set_cons_zero, List.set_cons_succ]
      refine takeS 48 51 rfl rfl (by kernel_rfl) (by kernel_rfl) (by kernel_rfl) (fun _ _ _ h => h) (by kernel_rfl) (by assumption) ?_
      simp only [List.set_cons_zero, List.set_cons_succ]
      refine takeS 49 52 rfl rfl (by kernel_rfl) (by kernel_rfl) (by kernel_rfl) (fun _ _ _ h => h) (by kernel_rfl) (by assumption) ?_
      simp only [List.set_cons_zero, List.set_cons_succ]
      refine takeS 50 53 rfl rfl (by kernel_rfl) (by kernel_rfl) (by kernel_rfl) (fun _ _ _ h => h) (by kernel_rfl) (by assumption) ?_
      simp only [List.set_cons_zero, List.set_cons_succ]
      refine takeS 51 54 rfl rfl (by kernel_rfl) (by kernel_rfl) (by kernel_rfl) (fun _ _ _ h => h) (by kernel_rfl) (by assumption) ?_
      simp only [List.set_cons_zero, List.set_cons_succ]
      refine takeS 52 55 rfl rfl (by kernel_rfl) (by kernel_rfl) (by kernel_rfl) (fun _ _ _ h => h) (by kernel_rfl) (by assumption) ?_
      simp only [List.set_cons_zero, List.set_cons_succ]
      refine takeS 53 56 rfl rfl (by kernel_rfl) (by kernel_rfl) (by kernel_rfl) (fun _ _ _ h => h) (by kernel_rfl) (by assumption) ?_
      simp only [List.set_cons_zero, List.set_cons_succ]
      refine takeS 54 57 rfl rfl (by kernel_rfl) (by kernel_rfl) (by kernel_rfl) (fun _ _ _ h => h) (by kernel_rfl) (by assumption) ?_
      simp only [List.set_cons_zero, List.set_cons_succ]
      refine takeS 55 58 rfl rfl (by kernel_rfl) (by kernel_rfl) (by kernel_rfl) (fun _ _ _ h => h) (by kernel_rfl) (by assumption) ?_
      simp only [List.set_cons_zero, List.set_cons_succ]
      refine takeW 56 59 (.bool false) rfl rfl (by kernel_rfl) (by kernel_rfl) (by kernel_rfl) (fun _ _ _ h => h) (by kernel_rfl) (by (intro w hSw; go_simp)) (by assumption) ?_
      simp only [List.set_cons_zero, List.set_cons_succ]
      refine takeW 57 2 (.bool false) rfl rfl (by kernel_rfl) (by kernel_rfl) (by kernel_rfl) (fun _ _ _ h => h) (by kernel_rfl) (by (intro w hSw; go_simp)) (by assumption) ?_
      simp only [List.set_cons_zero, List.set_cons_succ]
      refine wpAnyH_done (by kernel_rfl) ?_ _
      have hN : Hid (R = false) := by unfold Hid; rw [hR.out]; unfold fitsM; rw [h_li.out, h_ep.out]; rfl
      go_wp2
      go_ret
      exact ⟨by rw [hN.out]; rfl, hb2⟩
    · replace h_ep : Hid _ := h_ep
      refine takeW 13 16 (.bool true) rfl rfl (by kernel_rfl) (by kernel_rfl) (by kernel_rfl) (fun _ _ _ h => h) (by kernel_rfl) (by (intro w hSw; go_simp)) (by assumption) ?_
      simp only [List.set_cons_zero, List.set_cons_succ]
      refine takeW 14 17 (.bool true) rfl rfl (by kernel_rfl) (by kernel_rfl) (by kernel_rfl) (fun _ _ _ h => h) (by kernel_rfl) (by (intro w hSw; go_simp)) (by assumption) ?_
      simp only [List.set_cons_zero, List.set_cons_succ]
      refine takeW 15 18 (.pointer (some ⟨q, 0, none⟩)) rfl rfl (by kernel_rfl) (by kernel_rfl) (by kernel_rfl) (fun _ _ _ h => h) (by kernel_rfl) (by (intro w hSw; go_simp)) (by assumption) ?_
      simp only [List.set_cons_zero, List.set_cons_succ]
      refine takeW 16 19 (.pointer (some ⟨q, 0, none⟩)) rfl rfl (by kernel_rfl) (by kernel_rfl) (by kernel_rfl) (fun _ _ _ h => h) (by kernel_rfl) (by (intro w hSw; go_simp)) (by assumption) ?_
      simp only [List.set_cons_zero, List.set_cons_succ]
      refine takeW 17 20 (.pointer (some ⟨q, 1, none⟩)) rfl rfl (by kernel_rfl) (by kernel_rfl) (by kernel_rfl) (fun _ _ _ h => h) (by kernel_rfl) (by (intro w hSw; go_simp)) (by assumption) ?_
      simp only [List.set_cons_zero, List.set_cons_succ]
      refine takeW 18 21 (.pointer (some ⟨q, 6, none⟩)) rfl rfl (by kernel_rfl) (by kernel_rfl) (by kernel_rfl) (fun _ _ _ h => h) (by kernel_rfl) (by (intro w hSw; go_simp)) (by assumption) ?_
      simp only [List.set_cons_zero, List.set_cons_succ]
      refine takeW 19 22 (.int .i64 m.al) rfl rfl (by kernel_rfl) (by kernel_rfl) (by kernel_rfl) (fun _ _ _ h => h) (by kernel_rfl) (by (intro Y hSw; obtain ⟨X0, X1, X2, X3, X4, X5, X6, XF⟩ := M.below hSw M.lt; go_simp)) (by assumption) ?_
      simp only [List.set_cons_zero, List.set_cons_succ]
      refine wpAnyH_all (rs := [20]) (by kernel_rfl) (by simp) ?_
      intro i hi; obtain rfl : i = 20 := by simpa using hi
      refine wpOp_step rfl (fun Kz hKz => ?_)
      rw [if_pos (by kernel_rfl)]
      go_simp
      go_at_call 72
      refine (numFitsI m.al u2).mono ?_
      rintro e u3 ⟨rfl, kq⟩
      replace kq : Below u2.heap.size u2 u3 := by rw [kq]; exact Below.refl _ _
      have hb3 : Below w.heap.size w u3 := hb2.trans (kq.mono hb2.size)
      clear kq
      refine hKz _ _ ⟨hb3, ?_⟩
      clear hKz Kz hi
      cases h_al : (numB m.al)
      · replace h_al : Hid _ := h_al
        refine takeW 21 24 (.bool false) rfl rfl (by kernel_rfl) (by kernel_rfl) (by kernel_rfl) (fun _ _ _ h => h) (by kernel_rfl) (by (intro w hSw; go_simp)) (by assumption) ?_
        simp only [List.set_cons_zero, List.set_cons_succ]
        refine takeW 22 25 (.bool false) rfl rfl (by kernel_rfl) (by kernel_rfl) (by kernel_rfl) (fun _ _ _ h => h) (by kernel_rfl) (by (intro w hSw; go_simp)) (by assumption) ?_
        simp only [List.set_cons_zero, List.set_cons_succ]
        refine takeS 23 26 rfl rfl (by kernel_rfl) (by kernel_rfl) (by kernel_rfl) (fun _ _ _ h => h) (by kernel_rfl) (by assumption) ?_
        simp only [List.set_cons_zero, List.set_cons_succ]
        refine takeS 24 27 rfl rfl (by kernel_rfl) (by kernel_rfl) (by kernel_rfl) (fun _ _ _ h => h) (by kernel_rfl) (by assumption) ?_
        simp only [List.set_cons_zero, List.set_cons_succ]
        refine takeS 25 28 rfl rfl (by kernel_rfl) (by kernel_rfl) (by kernel_rfl) (fun _ _ _ h => h) (by kernel_rfl) (by assumption) ?_
        simp only [List.set_cons_zero, List.set_cons_succ]
        refine takeS 26 29 rfl rfl (by kernel_rfl) (by kernel_rfl) (by kernel_rfl) (fun _ _ _ h => h) (by kernel_rfl) (by assumption) ?_
        simp only [List.set_cons_zero, List.set_cons_succ]
        refine takeS 27 30 rfl rfl (by kernel_rfl) (by kernel_rfl) (by kernel_rfl) (fun _ _ _ h => h) (by kernel_rfl) (by assumption) ?_
        simp only [List.set_cons_zero, List.set_cons_succ]
        refine takeW 28 31 (.bool false) rfl rfl (by kernel_rfl) (by kernel_rfl) (by kernel_rfl) (fun _ _ _ h => h) (by kernel_rfl) (by (intro w hSw; go_simp)) (by assumption) ?_
        simp only [List.set_cons_zero, List.set_cons_succ]
        refine takeW 29 32 (.bool false) rfl rfl (by kernel_rfl) (by kernel_rfl) (by kernel_rfl) (fun _ _ _ h => h) (by kernel_rfl) (by (intro w hSw; go_simp)) (by assumption) ?_
        simp only [List.set_cons_zero, List.set_cons_succ]
        refine takeS 30 33 rfl rfl (by kernel_rfl) (by kernel_rfl) (by kernel_rfl) (fun _ _ _ h => h) (by kernel_rfl) (by assumption) ?_
        simp only [List.set_cons_zero, List.set_cons_succ]
        refine takeS 31 34 rfl rfl (by kernel_rfl) (by kernel_rfl) (by kernel_rfl) (fun _ _ _ h => h) (by kernel_rfl) (by assumption) ?_
        simp only [List.set_cons_zero, List.set_cons_succ]
        refine takeS 32 35 rfl rfl (by kernel_rfl) (by kernel_rfl) (by kernel_rfl) (fun _ _ _ h => h) (by kernel_rfl) (by assumption) ?_
        simp only [List.set_cons_zero, List.set_cons_succ]
        refine takeS 33 36 rfl rfl (by kernel_rfl) (by kernel_rfl) (by kernel_rfl) (fun _ _ _ h => h) (by kernel_rfl) (by assumption) ?_
        simp only [List.set_cons_zero, List.set_cons_succ]
        refine takeW 34 37 (.bool false) rfl rfl (by kernel_rfl) (by kernel_rfl) (by kernel_rfl) (fun _ _ _ h => h) (by kernel_rfl) (by (intro w hSw; go_simp)) (by assumption) ?_
        simp only [List.set_cons_zero, List.set_cons_succ]
        refine takeW 35 38 (.bool false) rfl rfl (by kernel_rfl) (by kernel_rfl) (by kernel_rfl) (fun _ _ _ h => h) (by kernel_rfl) (by (intro w hSw; go_simp)) (by assumption) ?_
        simp only [List.set_cons_zero, List.set_cons_succ]
        refine takeS 36 39 rfl rfl (by kernel_rfl) (by kernel_rfl) (by kernel_rfl) (fun _ _ _ h => h) (by kernel_rfl) (by assumption) ?_
        simp only [List.set_cons_zero, List.set_cons_succ]
        refine takeS 37 40 rfl rfl (by kernel_rfl) (by kernel_rfl) (by kernel_rfl) (fun _ _ _ h => h) (by kernel_rfl) (by assumption) ?_
        simp only [List.set_cons_zero, List.set_cons_succ]
        refine takeS 38 41 rfl rfl (by kernel_rfl) (by kernel_rfl) (by kernel_rfl) (fun _ _ _ h => h) (by kernel_rfl) (by assumption) ?_
        simp only [List.set_cons_zero, List.set_cons_succ]
        refine takeS 39 42 rfl rfl (by kernel_rfl) (by kernel_rfl) (by kernel_rfl) (fun _ _ _ h => h) (by kernel_rfl) (by assumption) ?_
        simp only [List.set_cons_zero, List.set_cons_succ]
        refine takeS 40 43 rfl rfl (by kernel_rfl) (by kernel_rfl) (by kernel_rfl) (fun _ _ _ h => h) (by kernel_rfl) (by assumption) ?_
        simp only [List.set_cons_zero, List.set_cons_succ]
        refine takeS 41 44 rfl rfl (by kernel_rfl) (by kernel_rfl) (by kernel_rfl) (fun _ _ _ h => h) (by kernel_rfl) (by assumption) ?_
        simp only [List.set_cons_zero, List.set_cons_succ]
        refine takeS 42 45 rfl rfl (by kernel_rfl) (by kernel_rfl) (by kernel_rfl) (fun _ _ _ h => h) (by kernel_rfl) (by assumption) ?_
        simp only [List.set_cons_zero, List.set_cons_succ]
        refine takeS 43 46 rfl rfl (by kernel_rfl) (by kernel_rfl) (by kernel_rfl) (fun _ _ _ h => h) (by kernel_rfl) (by assumption) ?_
        simp only [List.set_cons_zero, List.set_cons_succ]
        refine takeS 44 47 rfl rfl (by kernel_rfl) (by kernel_rfl) (by kernel_rfl) (fun _ _ _ h => h) (by kernel_rfl) (by assumption) ?_
        simp only [List.set_cons_zero, List.set_cons_succ]
        refine takeW 45 48 (.bool false) rfl rfl (by kernel_rfl) (by kernel_rfl) (by kernel_rfl) (fun _ _ _ h => h) (by kernel_rfl) (by (intro w hSw; go_simp)) (by assumption) ?_
        simp only [List.set_cons_zero, List.set_cons_succ]
        refine takeW 46 49 (.bool false) rfl rfl (by kernel_rfl) (by kernel_rfl) (by kernel_rfl) (fun _ _ _ h => h) (by kernel_rfl) (by (intro w hSw; go_simp)) (by assumption) ?_
        simp only [List.set_cons_zero, List.set_cons_succ]
        refine takeS 47 50 rfl rfl (by kernel_rfl) (by kernel_rfl) (by kernel_rfl) (fun _ _ _ h => h) (by kernel_rfl) (by assumption) ?_
        simp only [List.set_cons_zero, List.set_cons_succ]
        refine takeS 48 51 rfl rfl (by kernel_rfl) (by kernel_rfl) (by kernel_rfl) (fun _ _ _ h => h) (by kernel_rfl) (by assumption) ?_
        simp only [List.set_cons_zero, List.set_cons_succ]
        refine takeS 49 52 rfl rfl (by kernel_rfl) (by kernel_rfl) (by kernel_rfl) (fun _ _ _ h => h) (by kernel_rfl) (by assumption) ?_
        simp only [List.set_cons_zero, List.set_cons_succ]
        refine takeS 50 53 rfl rfl (by kernel_rfl) (by kernel_rfl) (by kernel_rfl) (fun _ _ _ h => h) (by kernel_rfl) (by assumption) ?_
        simp only [List.set_cons_zero, List.set_cons_succ]
        refine takeS 51 54 rfl rfl (by kernel_rfl) (by kernel_rfl) (by kernel_rfl) (fun _ _ _ h => h) (by kernel_rfl) (by assumption) ?_
        simp only [List.set_cons_zero, List.set_cons_succ]
        refine takeS 52 55 rfl rfl (by kernel_rfl) (by kernel_rfl) (by kernel_rfl) (fun _ _ _ h => h) (by kernel_rfl) (by assumption) ?_
        simp only [List.set_cons_zero, List.set_cons_succ]
        refine takeS 53 56 rfl rfl (by kernel_rfl) (by kernel_rfl) (by kernel_rfl) (fun _ _ _ h => h) (by kernel_rfl) (by assumption) ?_
        simp only [List.set_cons_zero, List.set_cons_succ]
        refine takeS 54 57 rfl rfl (by kernel_rfl) (by kernel_rfl) (by kernel_rfl) (fun _ _ _ h => h) (by kernel_rfl) (by assumption) ?_
        simp only [List.set_cons_zero, List.set_cons_succ]
        refine takeS 55 58 rfl rfl (by kernel_rfl) (by kernel_rfl) (by kernel_rfl) (fun _ _ _ h => h) (by kernel_rfl) (by assumption) ?_
        simp only [List.set_cons_zero, List.set_cons_succ]
        refine takeW 56 59 (.bool false) rfl rfl (by kernel_rfl) (by kernel_rfl) (by kernel_rfl) (fun _ _ _ h => h) (by kernel_rfl) (by (intro w hSw; go_simp)) (by assumption) ?_
        simp only [List.set_cons_zero, List.set_cons_succ]
        refine takeW 57 2 (.bool false) rfl rfl (by kernel_rfl) (by kernel_rfl) (by kernel_rfl) (fun _ _ _ h => h) (by kernel_rfl) (by (intro w hSw; go_simp)) (by assumption) ?_
        simp only [List.set_cons_zero, List.set_cons_succ]
        refine wpAnyH_done (by kernel_rfl) ?_ _
        have hN : Hid (R = false) := by unfold Hid; rw [hR.out]; unfold fitsM; rw [h_li.out, h_ep.out, h_al.out]; rfl
        go_wp2
        go_ret
        exact ⟨by rw [hN.out]; rfl, hb3⟩
      · replace h_al : Hid _ := h_al
        refine takeW 21 24 (.bool true) rfl rfl (by kernel_rfl) (by kernel_rfl) (by kernel_rfl) (fun _ _ _ h => h) (by kernel_rfl) (by (intro w hSw; go_simp)) (by assumption) ?_
        simp only [List.set_cons_zero, List.set_cons_succ]
        refine takeW 22 25 (.bool true) rfl rfl (by kernel_rfl) (by kernel_rfl) (by kernel_rfl) (fun _ _ _ h => h) (by kernel_rfl) (by (intro w hSw; go_simp)) (by assumption) ?_
        simp only [List.set_cons_zero, List.set_cons_succ]
        refine takeW 23 26 (.pointer (some ⟨q, 0, none⟩)) rfl rfl (by kernel_rfl) (by kernel_rfl) (by kernel_rfl) (fun _ _ _ h => h) (by kernel_rfl) (by (intro w hSw; go_simp)) (by assumption) ?_
        simp only [List.set_cons_zero, List.set_cons_succ]
        refine takeW 24 27 (.pointer (some ⟨q, 0, none⟩)) rfl rfl (by kernel_rfl) (by kernel_rfl) (by kernel_rfl) (fun _ _ _ h => h) (by kernel_rfl) (by (intro w hSw; go_simp)) (by assumption) ?_
        simp only [List.set_cons_zero, List.set_cons_succ]
        refine takeW 25 28 (.pointer (some ⟨q, 0, none⟩)) rfl rfl (by kernel_rfl) (by kernel_rfl) (by kernel_rfl) (fun _ _ _ h => h) (by kernel_rfl) (by (intro w hSw; go_simp)) (by assumption) ?_
        simp only [List.set_cons_zero, List.set_cons_succ]
        refine wpAnyH_all (rs := [26]) (by kernel_rfl) (by simp) ?_
        intro i hi; obtain rfl : i = 26 := by simpa using hi
        refine wpOp_step rfl (fun Kz hKz => ?_)
        rw [if_pos (by kernel_rfl)]
        go_simp
        go_at_call 172
        refine (countI q m.lg.length ad cap u3 (M.below hb3 M.lt).c0).mono ?_
        rintro e u4 ⟨rfl, kq⟩
        replace kq : Below u3.heap.size u3 u4 := by rw [kq]; exact Below.refl _ _
        have hb4 : Below w.heap.size w u4 := hb3.trans (kq.mono hb3.size)
        clear kq
        refine hKz _ _ ⟨hb4, ?_⟩
        clear hKz Kz hi
        refine takeW 27 30 (.bool (decide ((m.lg.length : Int) ≤ 60))) rfl rfl (by kernel_rfl) (by kernel_rfl) (by kernel_rfl) (fun _ _ _ h => h) (by kernel_rfl) (by (intro w hSw; go_simp)) (by assumption) ?_
        simp only [List.set_cons_zero, List.set_cons_succ]
        cases h_len : (decide ((m.lg.length : Int) ≤ 60))
        · replace h_len : Hid _ := h_len
          refine takeW 28 31 (.bool false) rfl rfl (by kernel_rfl) (by kernel_rfl) (by kernel_rfl) (fun _ _ _ h => h) (by kernel_rfl) (by (intro w hSw; go_simp)) (by assumption) ?_
          simp only [List.set_cons_zero, List.set_cons_succ]
          refine takeW 29 32 (.bool false) rfl rfl (by kernel_rfl) (by kernel_rfl) (by kernel_rfl) (fun _ _ _ h => h) (by kernel_rfl) (by (intro w hSw; go_simp)) (by assumption) ?_
          simp only [List.set_cons_zero, List.set_cons_succ]
          refine takeS 30 33 rfl rfl (by kernel_rfl) (by kernel_rfl) (by kernel_rfl) (fun _ _ _ h => h) (by kernel_rfl) (by assumption) ?_
          simp only [List.set_cons_zero, List.set_cons_succ]
          refine takeS 31 34 rfl rfl (by kernel_rfl) (by kernel_rfl) (by kernel_rfl) (fun _ _ _ h => h) (by kernel_rfl) (by assumption) ?_
          simp only [List.set_cons_zero, List.set_cons_succ]
          refine takeS 32 35 rfl rfl (by kernel_rfl) (by kernel_rfl) (by kernel_rfl) (fun _ _ _ h => h) (by kernel_rfl) (by assumption) ?_
          simp only [List.set_cons_zero, List.set_cons_succ]
          refine takeS 33 36 rfl rfl (by kernel_rfl) (by kernel_rfl) (by kernel_rfl) (fun _ _ _ h => h) (by kernel_rfl) (by assumption) ?_
          simp only [List.set_cons_zero, List.set_cons_succ]
          refine takeW 34 37 (.bool false) rfl rfl (by kernel_rfl) (by kernel_rfl) (by kernel_rfl) (fun _ _ _ h => h) (by kernel_rfl) (by (intro w hSw; go_simp)) (by assumption) ?_
          simp only [List.set_cons_zero, List.set_cons_succ]
          refine takeW 35 38 (.bool false) rfl rfl (by kernel_rfl) (by kernel_rfl) (by kernel_rfl) (fun _ _ _ h => h) (by kernel_rfl) (by (intro w hSw; go_simp)) (by assumption) ?_
          simp only [List.set_cons_zero, List.set_cons_succ]
          refine takeS 36 39 rfl rfl (by kernel_rfl) (by kernel_rfl) (by kernel_rfl) (fun _ _ _ h => h) (by kernel_rfl) (by assumption) ?_
          simp only [List.set_cons_zero, List.set_cons_succ]
          refine takeS 37 40 rfl rfl (by kernel_rfl) (by kernel_rfl) (by kernel_rfl) (fun _ _ _ h => h) (by kernel_rfl) (by assumption) ?_
          simp only [List.set_cons_zero, List.set_cons_succ]
          refine takeS 38 41 rfl rfl (by kernel_rfl) (by kernel_rfl) (by kernel_rfl) (fun _ _ _ h => h) (by kernel_rfl) (by assumption) ?_
          simp only [List.set_cons_zero, List.set_cons_succ]
          refine takeS 39 42 rfl rfl (by kernel_rfl) (by kernel_rfl) (by kernel_rfl) (fun _ _ _ h => h) (by kernel_rfl) (by assumption) ?_
          simp only [List.set_cons_zero, List.set_cons_succ]
          refine takeS 40 43 rfl rfl (by kernel_rfl) (by kernel_rfl) (by kernel_rfl) (fun _ _ _ h => h) (by kernel_rfl) (by assumption) ?_
          simp only [List.set_cons_zero, List.set_cons_succ]
          refine takeS 41 44 rfl rfl (by kernel_rfl) (by kernel_rfl) (by kernel_rfl) (fun _ _ _ h => h) (by kernel_rfl) (by assumption) ?_
          simp only [List.set_cons_zero, List.set_cons_succ]
          refine takeS 42 45 rfl rfl (by kernel_rfl) (by kernel_rfl) (by kernel_rfl) (fun _ _ _ h => h) (by kernel_rfl) (by assumption) ?_
          simp only [List.set_cons_zero, List.set_cons_succ]
          refine takeS 43 46 rfl rfl (by kernel_rfl) (by kernel_rfl) (by kernel_rfl) (fun _ _ _ h => h) (by kernel_rfl) (by assumption) ?_
          simp only [List.set_cons_zero, List.set_cons_succ]
          refine takeS 44 47 rfl rfl (by kernel_rfl) (by kernel_rfl) (by kernel_rfl) (fun _ _ _ h => h) (by kernel_rfl) (by assumption) ?_
          simp only [List.set_cons_zero, List.set_cons_succ]
          refine takeW 45 48 (.bool false) rfl rfl (by kernel_rfl) (by kernel_rfl) (by kernel_rfl) (fun _ _ _ h => h) (by kernel_rfl) (by (intro w hSw; go_simp)) (by assumption) ?_
          simp only [List.set_cons_zero, List.set_cons_succ]
          refine takeW 46 49 (.bool false) rfl rfl (by kernel_rfl) (by kernel_rfl) (by kernel_rfl) (fun _ _ _ h => h) (by kernel_rfl) (by (intro w hSw; go_simp)) (by assumption) ?_
          simp only [List.set_cons_zero, List.set_cons_succ]
          refine takeS 47 50 rfl rfl (by kernel_rfl) (by kernel_rfl) (by kernel_rfl) (fun _ _ _ h => h) (by kernel_rfl) (by assumption) ?_
          simp only [List.set_cons_zero, List.set_cons_succ]
          refine takeS 48 51 rfl rfl (by kernel_rfl) (by kernel_rfl) (by kernel_rfl) (fun _ _ _ h => h) (by kernel_rfl) (by assumption) ?_
          simp only [List.set_cons_zero, List.set_cons_succ]
          refine takeS 49 52 rfl rfl (by kernel_rfl) (by kernel_rfl) (by kernel_rfl) (fun _ _ _ h => h) (by kernel_rfl) (by assumption) ?_
          simp only [List.set_cons_zero, List.set_cons_succ]
          refine takeS 50 53 rfl rfl (by kernel_rfl) (by kernel_rfl) (by kernel_rfl) (fun _ _ _ h => h) (by kernel_rfl) (by assumption) ?_
          simp only [List.set_cons_zero, List.set_cons_succ]
          refine takeS 51 54 rfl rfl (by kernel_rfl) (by kernel_rfl) (by kernel_rfl) (fun _ _ _ h => h) (by kernel_rfl) (by assumption) ?_
          simp only [List.set_cons_zero, List.set_cons_succ]
          refine takeS 52 55 rfl rfl (by kernel_rfl) (by kernel_rfl) (by kernel_rfl) (fun _ _ _ h => h) (by kernel_rfl) (by assumption) ?_
          simp only [List.set_cons_zero, List.set_cons_succ]
          refine takeS 53 56 rfl rfl (by kernel_rfl) (by kernel_rfl) (by kernel_rfl) (fun _ _ _ h => h) (by kernel_rfl) (by assumption) ?_
          simp only [List.set_cons_zero, List.set_cons_succ]
          refine takeS 54 57 rfl rfl (by kernel_rfl) (by kernel_rfl) (by kernel_rfl) (fun _ _ _ h => h) (by kernel_rfl) (by assumption) ?_
          simp only [List.set_cons_zero, List.set_cons_succ]
          refine takeS 55 58 rfl rfl (by kernel_rfl) (by kernel_rfl) (by kernel_rfl) (fun _ _ _ h => h) (by kernel_rfl) (by assumption) ?_
          simp only [List.set_cons_zero, List.set_cons_succ]
          refine takeW 56 59 (.bool false) rfl rfl (by kernel_rfl) (by kernel_rfl) (by kernel_rfl) (fun _ _ _ h => h) (by kernel_rfl) (by (intro w hSw; go_simp)) (by assumption) ?_
          simp only [List.set_cons_zero, List.set_cons_succ]
          refine takeW 57 2 (.bool false) rfl rfl (by kernel_rfl) (by kernel_rfl) (by kernel_rfl) (fun _ _ _ h => h) (by kernel_rfl) (by (intro w hSw; go_simp)) (by assumption) ?_
          simp only [List.set_cons_zero, List.set_cons_succ]
          refine wpAnyH_done (by kernel_rfl) ?_ _
          have hN : Hid (R = false) := by unfold Hid; rw [hR.out]; unfold fitsM; rw [h_li.out, h_ep.out, h_al.out, h_len.out]; rfl
          go_wp2
          go_ret
          exact ⟨by rw [hN.out]; rfl, hb4⟩
        · replace h_len : Hid _ := h_len
          refine takeW 28 31 (.bool true) rfl rfl (by kernel_rfl) (by kernel_rfl) (by kernel_rfl) (fun _ _ _ h => h) (by kernel_rfl) (by (intro w hSw; go_simp)) (by assumption) ?_
          simp only [List.set_cons_zero, List.set_cons_succ]
          refine takeW 29 32 (.bool true) rfl rfl (by kernel_rfl) (by kernel_rfl) (by kernel_rfl) (fun _ _ _ h => h) (by kernel_rfl) (by (intro w hSw; go_simp)) (by assumption) ?_
          simp only [List.set_cons_zero, List.set_cons_succ]
          refine takeW 30 33 (.pointer (some ⟨q, 0, none⟩)) rfl rfl (by kernel_rfl) (by kernel_rfl) (by kernel_rfl) (fun _ _ _ h => h) (by kernel_rfl) (by (intro w hSw; go_simp)) (by assumption) ?_
          simp only [List.set_cons_zero, List.set_cons_succ]
          refine takeW 31 34 (.pointer (some ⟨q, 0, none⟩)) rfl rfl (by kernel_rfl) (by kernel_rfl) (by kernel_rfl) (fun _ _ _ h => h) (by kernel_rfl) (by (intro w hSw; go_simp)) (by assumption) ?_
          simp only [List.set_cons_zero, List.set_cons_succ]
          refine takeW 32 35 (.pointer (some ⟨q, 0, none⟩)) rfl rfl (by kernel_rfl) (by kernel_rfl) (by kernel_rfl) (fun _ _ _ h => h) (by kernel_rfl) (by (intro w hSw; go_simp)) (by assumption) ?_
          simp only [List.set_cons_zero, List.set_cons_succ]
          refine wpAnyH_all (rs := [33]) (by kernel_rfl) (by simp) ?_
          intro i hi; obtain rfl : i = 33 := by simpa using hi
          refine wpOp_step rfl (fun Kz hKz => ?_)
          rw [if_pos (by kernel_rfl)]
          go_simp
          go_at_call 173
          refine (eachI q ad cap m.lg u4 (M.below hb4 M.lt).c0 (hv.below hb4 (hv.lt ikEnc_len (by omega))) hl).mono ?_
          rintro e u5 ⟨rfl, kq⟩
          have hb5 : Below w.heap.size w u5 := hb4.trans (kq.mono hb4.size)
          clear kq
          refine hKz _ _ ⟨hb5, ?_⟩
          clear hKz Kz hi
          cases h_all : (m.lg.all inOk)
          · replace h_all : Hid _ := h_all
            refine takeW 34 37 (.bool false) rfl rfl (by kernel_rfl) (by kernel_rfl) (by kernel_rfl) (fun _ _ _ h => h) (by kernel_rfl) (by (intro w hSw; go_simp)) (by assumption) ?_
            simp only [List.set_cons_zero, List.set_cons_succ]
            refine takeW 35 38 (.bool false) rfl rfl (by kernel_rfl) (by kernel_rfl) (by kernel_rfl) (fun _ _ _ h => h) (by kernel_rfl) (by (intro w hSw; go_simp)) (by assumption) ?_
            simp only [List.set_cons_zero, List.set_cons_succ]
            refine takeS 36 39 rfl rfl (by kernel_rfl) (by kernel_rfl) (by kernel_rfl) (fun _ _ _ h => h) (by kernel_rfl) (by assumption) ?_
            simp only [List.set_cons_zero, List.set_cons_succ]
            refine takeS 37 40 rfl rfl (by kernel_rfl) (by kernel_rfl) (by kernel_rfl) (fun _ _ _ h => h) (by kernel_rfl) (by assumption) ?_
            simp only [List.set_cons_zero, List.set_cons_succ]
            refine takeS 38 41 rfl rfl (by kernel_rfl) (by kernel_rfl) (by kernel_rfl) (fun _ _ _ h => h) (by kernel_rfl) (by assumption) ?_
            simp only [List.set_cons_zero, List.set_cons_succ]
            refine takeS 39 42 rfl rfl (by kernel_rfl) (by kernel_rfl) (by kernel_rfl) (fun _ _ _ h => h) (by kernel_rfl) (by assumption) ?_
            simp only [List.set_cons_zero, List.set_cons_succ]
            refine takeS 40 43 rfl rfl (by kernel_rfl) (by kernel_rfl) (by kernel_rfl) (fun _ _ _ h => h) (by kernel_rfl) (by assumption) ?_
            simp only [List.set_cons_zero, List.set_cons_succ]
            refine takeS 41 44 rfl rfl (by kernel_rfl) (by kernel_rfl) (by kernel_rfl) (fun _ _ _ h => h) (by kernel_rfl) (by assumption) ?_
            simp only [List.set_cons_zero, List.set_cons_succ]
            refine takeS 42 45 rfl rfl (by kernel_rfl) (by kernel_rfl) (by kernel_rfl) (fun _ _ _ h => h) (by kernel_rfl) (by assumption) ?_
            simp only [List.set_cons_zero, List.set_cons_succ]
            refine takeS 43 46 rfl rfl (by kernel_rfl) (by kernel_rfl) (by kernel_rfl) (fun _ _ _ h => h) (by kernel_rfl) (by assumption) ?_
            simp only [List.set_cons_zero, List.set_cons_succ]
            refine takeS 44 47 rfl rfl (by kernel_rfl) (by kernel_rfl) (by kernel_rfl) (fun _ _ _ h => h) (by kernel_rfl) (by assumption) ?_
            simp only [List.set_cons_zero, List.set_cons_succ]
            refine takeW 45 48 (.bool false) rfl rfl (by kernel_rfl) (by kernel_rfl) (by kernel_rfl) (fun _ _ _ h => h) (by kernel_rfl) (by (intro w hSw; go_simp)) (by assumption) ?_
            simp only [List.set_cons_zero, List.set_cons_succ]
            refine takeW 46 49 (.bool false) rfl rfl (by kernel_rfl) (by kernel_rfl) (by kernel_rfl) (fun _ _ _ h => h) (by kernel_rfl) (by (intro w hSw; go_simp)) (by assumption) ?_
            simp only [List.set_cons_zero, List.set_cons_succ]
            refine takeS 47 50 rfl rfl (by kernel_rfl) (by kernel_rfl) (by kernel_rfl) (fun _ _ _ h => h) (by kernel_rfl) (by assumption) ?_
            simp only [List.set_cons_zero, List.set_cons_succ]
            refine takeS 48 51 rfl rfl (by kernel_rfl) (by kernel_rfl) (by kernel_rfl) (fun _ _ _ h => h) (by kernel_rfl) (by assumption) ?_
            simp only [List.set_cons_zero, List.set_cons_succ]
            refine takeS 49 52 rfl rfl (by kernel_rfl) (by kernel_rfl) (by kernel_rfl) (fun _ _ _ h => h) (by kernel_rfl) (by assumption) ?_
            simp only [List.set_cons_zero, List.set_cons_succ]
            refine takeS 50 53 rfl rfl (by kernel_rfl) (by kernel_rfl) (by kernel_rfl) (fun _ _ _ h => h) (by kernel_rfl) (by assumption) ?_
            simp only [List.set_cons_zero, List.set_cons_succ]
            refine takeS 51 54 rfl rfl (by kernel_rfl) (by kernel_rfl) (by kernel_rfl) (fun _ _ _ h => h) (by kernel_rfl) (by assumption) ?_
            simp only [List.set_cons_zero, List.set_cons_succ]
            refine takeS 52 55 rfl rfl (by kernel_rfl) (by kernel_rfl) (by kernel_rfl) (fun _ _ _ h => h) (by kernel_rfl) (by assumption) ?_
            simp only [List.set_cons_zero, List.set_cons_succ]
            refine takeS 53 56 rfl rfl (by kernel_rfl) (by kernel_rfl) (by kernel_rfl) (fun _ _ _ h => h) (by kernel_rfl) (by assumption) ?_
            simp only [List.set_cons_zero, List.set_cons_succ]
            refine takeS 54 57 rfl rfl (by kernel_rfl) (by kernel_rfl) (by kernel_rfl) (fun _ _ _ h => h) (by kernel_rfl) (by assumption) ?_
            simp only [List.set_cons_zero, List.set_cons_succ]
            refine takeS 55 58 rfl rfl (by kernel_rfl) (by kernel_rfl) (by kernel_rfl) (fun _ _ _ h => h) (by kernel_rfl) (by assumption) ?_
            simp only [List.set_cons_zero, List.set_cons_succ]
            refine takeW 56 59 (.bool false) rfl rfl (by kernel_rfl) (by kernel_rfl) (by kernel_rfl) (fun _ _ _ h => h) (by kernel_rfl) (by (intro w hSw; go_simp)) (by assumption) ?_
            simp only [List.set_cons_zero, List.set_cons_succ]
            refine takeW 57 2 (.bool false) rfl rfl (by kernel_rfl) (by kernel_rfl) (by kernel_rfl) (fun _ _ _ h => h) (by kernel_rfl) (by (intro w hSw; go_simp)) (by assumption) ?_
            simp only [List.set_cons_zero, List.set_cons_succ]
            refine wpAnyH_done (by kernel_rfl) ?_ _
            have hN : Hid (R = false) := by unfold Hid; rw [hR.out]; unfold fitsM; rw [h_li.out, h_ep.out, h_al.out, h_len.out, h_all.out]; rfl
            go_wp2
            go_ret
            exact ⟨by rw [hN.out]; rfl, hb5⟩
          · replace h_all : Hid _ := h_all
            refine takeW 34 37 (.bool true) rfl rfl (by kernel_rfl) (by kernel_rfl) (by kernel_rfl) (fun _ _ _ h => h) (by kernel_rfl) (by (intro w hSw; go_simp)) (by assumption) ?_
            simp only [List.set_cons_zero, List.set_cons_succ]
            refine takeW 35 38 (.bool true) rfl rfl (by kernel_rfl) (by kernel_rfl) (by kernel_rfl) (fun _ _ _ h => h) (by kernel_rfl) (by (intro w hSw; go_simp)) (by assumption) ?_
            simp only [List.set_cons_zero, List.set_cons_succ]
            refine takeW 36 39 (.pointer (some ⟨q, 0, none⟩)) rfl rfl (by kernel_rfl) (by kernel_rfl) (by kernel_rfl) (fun _ _ _ h => h) (by kernel_rfl) (by (intro w hSw; go_simp)) (by assumption) ?_
            simp only [List.set_cons_zero, List.set_cons_succ]
            refine takeW 37 40 (.pointer (some ⟨q, 0, none⟩)) rfl rfl (by kernel_rfl) (by kernel_rfl) (by kernel_rfl) (fun _ _ _ h => h) (by kernel_rfl) (by (intro w hSw; go_simp)) (by assumption) ?_
            simp only [List.set_cons_zero, List.set_cons_succ]
            refine takeW 38 41 (.pointer (some ⟨q, 0, none⟩)) rfl rfl (by kernel_rfl) (by kernel_rfl) (by kernel_rfl) (fun _ _ _ h => h) (by kernel_rfl) (by (intro w hSw; go_simp)) (by assumption) ?_
            simp only [List.set_cons_zero, List.set_cons_succ]
            refine takeW 39 42 (.pointer (some ⟨q, 0, none⟩)) rfl rfl (by kernel_rfl) (by kernel_rfl) (by kernel_rfl) (fun _ _ _ h => h) (by kernel_rfl) (by (intro w hSw; go_simp)) (by assumption) ?_
            simp only [List.set_cons_zero, List.set_cons_succ]
            refine takeW 40 43 (.pointer (some ⟨q, 0, none⟩)) rfl rfl (by kernel_rfl) (by kernel_rfl) (by kernel_rfl) (fun _ _ _ h => h) (by kernel_rfl) (by (intro w hSw; go_simp)) (by assumption) ?_
            simp only [List.set_cons_zero, List.set_cons_succ]
            refine takeW 41 44 (.pointer (some ⟨q, 1, none⟩)) rfl rfl (by kernel_rfl) (by kernel_rfl) (by kernel_rfl) (fun _ _ _ h => h) (by kernel_rfl) (by (intro w hSw; go_simp)) (by assumption) ?_
            simp only [List.set_cons_zero, List.set_cons_succ]
            refine takeW 42 45 (.pointer (some ⟨q, 4, none⟩)) rfl rfl (by kernel_rfl) (by kernel_rfl) (by kernel_rfl) (fun _ _ _ h => h) (by kernel_rfl) (by (intro w hSw; go_simp)) (by assumption) ?_
            simp only [List.set_cons_zero, List.set_cons_succ]
            refine takeW 43 46 (.int .i64 m.sd) rfl rfl (by kernel_rfl) (by kernel_rfl) (by kernel_rfl) (fun _ _ _ h => h) (by kernel_rfl) (by (intro Y hSw; obtain ⟨X0, X1, X2, X3, X4, X5, X6, XF⟩ := M.below hSw M.lt; go_simp)) (by assumption) ?_
            simp only [List.set_cons_zero, List.set_cons_succ]
            refine wpAnyH_all (rs := [44]) (by kernel_rfl) (by simp) ?_
            intro i hi; obtain rfl : i = 44 := by simpa using hi
            refine wpOp_step rfl (fun Kz hKz => ?_)
            rw [if_pos (by kernel_rfl)]
            go_simp
            go_at_call 174
            refine (begI q m.lg.length ad cap m.sd u5 (M.below hb5 M.lt).c0).mono ?_
            rintro e u6 ⟨rfl, kq⟩
            replace kq : Below u5.heap.size u5 u6 := by rw [kq]; exact Below.refl _ _
            have hb6 : Below w.heap.size w u6 := hb5.trans (kq.mono hb5.size)
            clear kq
            refine hKz _ _ ⟨hb6, ?_⟩
            clear hKz Kz hi
            cases h_sd : (decide (0 ≤ m.sd ∧ m.sd ≤ (m.lg.length : Int)))
            · replace h_sd : Hid _ := h_sd
              refine takeW 45 48 (.bool false) rfl rfl (by kernel_rfl) (by kernel_rfl) (by kernel_rfl) (fun _ _ _ h => h) (by kernel_rfl) (by (intro w hSw; go_simp)) (by assumption) ?_
              simp only [List.set_cons_zero, List.set_cons_succ]
              refine takeW 46 49 (.bool false) rfl rfl (by kernel_rfl) (by kernel_rfl) (by kernel_rfl) (fun _ _ _ h => h) (by kernel_rfl) (by (intro w hSw; go_simp)) (by assumption) ?_
              simp only [List.set_cons_zero, List.set_cons_succ]
              refine takeS 47 50 rfl rfl (by kernel_rfl) (by kernel_rfl) (by kernel_rfl) (fun _ _ _ h => h) (by kernel_rfl) (by assumption) ?_
              simp only [List.set_cons_zero, List.set_cons_succ]
              refine takeS 48 51 rfl rfl (by kernel_rfl) (by kernel_rfl) (by kernel_rfl) (fun _ _ _ h => h) (by kernel_rfl) (by assumption) ?_
              simp only [List.set_cons_zero, List.set_cons_succ]
              refine takeS 49 52 rfl rfl (by kernel_rfl) (by kernel_rfl) (by kernel_rfl) (fun _ _ _ h => h) (by kernel_rfl) (by assumption) ?_
              simp only [List.set_cons_zero, List.set_cons_succ]
              refine takeS 50 53 rfl rfl (by kernel_rfl) (by kernel_rfl) (by kernel_rfl) (fun _ _ _ h => h) (by kernel_rfl) (by assumption) ?_
              simp only [List.set_cons_zero, List.set_cons_succ]
              refine takeS 51 54 rfl rfl (by kernel_rfl) (by kernel_rfl) (by kernel_rfl) (fun _ _ _ h => h) (by kernel_rfl) (by assumption) ?_
              simp only [List.set_cons_zero, List.set_cons_succ]
              refine takeS 52 55 rfl rfl (by kernel_rfl) (by kernel_rfl) (by kernel_rfl) (fun _ _ _ h => h) (by kernel_rfl) (by assumption) ?_
              simp only [List.set_cons_zero, List.set_cons_succ]
              refine takeS 53 56 rfl rfl (by kernel_rfl) (by kernel_rfl) (by kernel_rfl) (fun _ _ _ h => h) (by kernel_rfl) (by assumption) ?_
              simp only [List.set_cons_zero, List.set_cons_succ]
              refine takeS 54 57 rfl rfl (by kernel_rfl) (by kernel_rfl) (by kernel_rfl) (fun _ _ _ h => h) (by kernel_rfl) (by assumption) ?_
              simp only [List.set_cons_zero, List.set_cons_succ]
              refine takeS 55 58 rfl rfl (by kernel_rfl) (by kernel_rfl) (by kernel_rfl) (fun _ _ _ h => h) (by kernel_rfl) (by assumption) ?_
              simp only [List.set_cons_zero, List.set_cons_succ]
              refine takeW 56 59 (.bool false) rfl rfl (by kernel_rfl) (by kernel_rfl) (by kernel_rfl) (fun _ _ _ h => h) (by kernel_rfl) (by (intro w hSw; go_simp)) (by assumption) ?_
              simp only [List.set_cons_zero, List.set_cons_succ]
              refine takeW 57 2 (.bool false) rfl rfl (by kernel_rfl) (by kernel_rfl) (by kernel_rfl) (fun _ _ _ h => h) (by kernel_rfl) (by (intro w hSw; go_simp)) (by assumption) ?_
              simp only [List.set_cons_zero, List.set_cons_succ]
              refine wpAnyH_done (by kernel_rfl) ?_ _
              have hN : Hid (R = false) := by unfold Hid; rw [hR.out]; unfold fitsM; rw [h_li.out, h_ep.out, h_al.out, h_len.out, h_all.out, h_sd.out]; rfl
              go_wp2
              go_ret
              exact ⟨by rw [hN.out]; rfl, hb6⟩
            · replace h_sd : Hid _ := h_sd
              refine takeW 45 48 (.bool true) rfl rfl (by kernel_rfl) (by kernel_rfl) (by kernel_rfl) (fun _ _ _ h => h) (by kernel_rfl) (by (intro w hSw; go_simp)) (by assumption) ?_
              simp only [List.set_cons_zero, List.set_cons_succ]
              refine takeW 46 49 (.bool true) rfl rfl (by kernel_rfl) (by kernel_rfl) (by kernel_rfl) (fun _ _ _ h => h) (by kernel_rfl) (by (intro w hSw; go_simp)) (by assumption) ?_
              simp only [List.set_cons_zero, List.set_cons_succ]
              refine takeW 47 50 (.pointer (some ⟨q, 0, none⟩)) rfl rfl (by kernel_rfl) (by kernel_rfl) (by kernel_rfl) (fun _ _ _ h => h) (by kernel_rfl) (by (intro w hSw; go_simp)) (by assumption) ?_
              simp only [List.set_cons_zero, List.set_cons_succ]
              refine takeW 48 51 (.pointer (some ⟨q, 0, none⟩)) rfl rfl (by kernel_rfl) (by kernel_rfl) (by kernel_rfl) (fun _ _ _ h => h) (by kernel_rfl) (by (intro w hSw; go_simp)) (by assumption) ?_
              simp only [List.set_cons_zero, List.set_cons_succ]
              refine takeW 49 52 (.pointer (some ⟨q, 0, none⟩)) rfl rfl (by kernel_rfl) (by kernel_rfl) (by kernel_rfl) (fun _ _ _ h => h) (by kernel_rfl) (by (intro w hSw; go_simp)) (by assumption) ?_
              simp only [List.set_cons_zero, List.set_cons_succ]
              refine takeW 50 53 (.pointer (some ⟨q, 0, none⟩)) rfl rfl (by kernel_rfl) (by kernel_rfl) (by kernel_rfl) (fun _ _ _ h => h) (by kernel_rfl) (by (intro w hSw; go_simp)) (by assumption) ?_
              simp only [List.set_cons_zero, List.set_cons_succ]
              refine takeW 51 54 (.pointer (some ⟨q, 0, none⟩)) rfl rfl (by kernel_rfl) (by kernel_rfl) (by kernel_rfl) (fun _ _ _ h => h) (by kernel_rfl) (by (intro w hSw; go_simp)) (by assumption) ?_
              simp only [List.set_cons_zero, List.set_cons_succ]
              refine takeW 52 55 (.pointer (some ⟨q, 1, none⟩)) rfl rfl (by kernel_rfl) (by kernel_rfl) (by kernel_rfl) (fun _ _ _ h => h) (by kernel_rfl) (by (intro w hSw; go_simp)) (by assumption) ?_
              simp only [List.set_cons_zero, List.set_cons_succ]
              refine takeW 53 56 (.pointer (some ⟨q, 5, none⟩)) rfl rfl (by kernel_rfl) (by kernel_rfl) (by kernel_rfl) (fun _ _ _ h => h) (by kernel_rfl) (by (intro w hSw; go_simp)) (by assumption) ?_
              simp only [List.set_cons_zero, List.set_cons_succ]
              refine takeW 54 57 (.int .i64 m.ac) rfl rfl (by kernel_rfl) (by kernel_rfl) (by kernel_rfl) (fun _ _ _ h => h) (by kernel_rfl) (by (intro Y hSw; obtain ⟨X0, X1, X2, X3, X4, X5, X6, XF⟩ := M.below hSw M.lt; go_simp)) (by assumption) ?_
              simp only [List.set_cons_zero, List.set_cons_succ]
              refine wpAnyH_all (rs := [55]) (by kernel_rfl) (by simp) ?_
              intro i hi; obtain rfl : i = 55 := by simpa using hi
              refine wpOp_step rfl (fun Kz hKz => ?_)
              rw [if_pos (by kernel_rfl)]
              go_simp
              go_at_call 174
              refine (begI q m.lg.length ad cap m.ac u6 (M.below hb6 M.lt).c0).mono ?_
              rintro e u7 ⟨rfl, kq⟩
              replace kq : Below u6.heap.size u6 u7 := by rw [kq]; exact Below.refl _ _
              have hb7 : Below w.heap.size w u7 := hb6.trans (kq.mono hb6.size)
              clear kq
              refine hKz _ _ ⟨hb7, ?_⟩
              clear hKz Kz hi
              cases h_ac : (decide (0 ≤ m.ac ∧ m.ac ≤ (m.lg.length : Int)))
              · replace h_ac : Hid _ := h_ac
                refine takeW 56 59 (.bool false) rfl rfl (by kernel_rfl) (by kernel_rfl) (by kernel_rfl) (fun _ _ _ h => h) (by kernel_rfl) (by (intro w hSw; go_simp)) (by assumption) ?_
                simp only [List.set_cons_zero, List.set_cons_succ]
                refine takeW 57 2 (.bool false) rfl rfl (by kernel_rfl) (by kernel_rfl) (by kernel_rfl) (fun _ _ _ h => h) (by kernel_rfl) (by (intro w hSw; go_simp)) (by assumption) ?_
                simp only [List.set_cons_zero, List.set_cons_succ]
                refine wpAnyH_done (by kernel_rfl) ?_ _
                have hN : Hid (R = false) := by unfold Hid; rw [hR.out]; unfold fitsM; rw [h_li.out, h_ep.out, h_al.out, h_len.out, h_all.out, h_sd.out, h_ac.out]; rfl
                go_wp2
                go_ret
                exact ⟨by rw [hN.out]; rfl, hb7⟩
              · replace h_ac : Hid _ := h_ac
                refine takeW 56 59 (.bool true) rfl rfl (by kernel_rfl) (by kernel_rfl) (by kernel_rfl) (fun _ _ _ h => h) (by kernel_rfl) (by (intro w hSw; go_simp)) (by assumption) ?_
                simp only [List.set_cons_zero, List.set_cons_succ]
                refine takeW 57 2 (.bool true) rfl rfl (by kernel_rfl) (by kernel_rfl) (by kernel_rfl) (fun _ _ _ h => h) (by kernel_rfl) (by (intro w hSw; go_simp)) (by assumption) ?_
                simp only [List.set_cons_zero, List.set_cons_succ]
                refine wpAnyH_done (by kernel_rfl) ?_ _
                have hN : Hid (R = true) := by unfold Hid; rw [hR.out]; unfold fitsM; rw [h_li.out, h_ep.out, h_al.out, h_len.out, h_all.out, h_sd.out, h_ac.out]; rfl
                go_wp2
                go_ret
                exact ⟨by rw [hN.out]; rfl, hb7⟩

end Go.Proofs.YtnpiljegdiconaaGreat
namespace Go.Proofs.YtnpiljegdiconaaGreat
open Go.ChangeShapes Go.WideShapes Go.ChangeAt Go.RowKit
open Go.ChangeMaps (open_string shut_string)
set_option linter.unusedVariables false
set_option maxRecDepth 100000

theorem setCells_put (g : Nat) : ∀ (vs : List Value) (o : Nat) (w : World), w.setCells g o vs = putAll w g o vs
  | [], _, _ => rfl
  | v :: vs, o, w => setCells_put g vs (o + 1) (w.setCell ⟨g, o, none⟩ v)
/-- Only the blocks q and o have turned. -/
structure Turned (q : Nat) (o : Option Nat) (w w' : World) : Prop where
  os : w'.os = w.os
  tape : w'.tape = w.tape
  output : w'.output = w.output
  size : w.heap.size ≤ w'.heap.size
  block : ∀ k, k < w.heap.size → k ≠ q → o ≠ some k → w'.heap[k]? = w.heap[k]?
theorem Turned.below {q : Nat} {o : Option Nat} {w w' : World} (h : Turned q o w w') {B : Nat} (hB : B ≤ w.heap.size) (h1 : B ≤ q) (h2 : ∀ g, o = some g → B ≤ g) : Below B w w' :=
  ⟨h.os, h.tape, h.output, h.size, fun k hk => h.block k (by omega) (by omega) (fun e => by have := h2 k e; omega)⟩
theorem Turned.refl (q : Nat) (o : Option Nat) (w : World) : Turned q o w w := ⟨rfl, rfl, rfl, Nat.le_refl _, fun _ _ _ _ => rfl⟩
theorem Turned.set {q : Nat} {o : Option Nat} {w w' : World} (h : Turned q o w w') (i : Nat) (v : Value) : Turned q o w (w'.setCell ⟨q, i, none⟩ v) :=
  ⟨h.os, h.tape, h.output, by simpa using h.size, fun k hk h1 h2 => (Below.heap_setCell _ _ _ _ h1).trans (h.block k hk h1 h2)⟩
theorem Turned.put {q g : Nat} {w : World} (o : Nat) (vs : List Value) : Turned q (some g) w (putAll w g o vs) := by
  have hb := below_putAll (B := 0) (g := g) (a := w) (Nat.zero_le _) vs o (Below.refl 0 w)
  exact ⟨hb.os, hb.tape, hb.output, hb.size, fun k _ _ h2 => heap_putAll vs w o k (fun e => h2 (by rw [e]))⟩
theorem zeroIk (w : World) : (zeroValue 105).run Tryz.prog w = .ok (.agg #[.int .i64 0, .int .i64 0, .int .i64 0, .int .i64 0, .int .i64 0, .int .i64 0, .int .i64 0, .bool false]) w := by kernel_rfl
theorem clearIk (w : World) (ty : TypeId) (g n c : Nat) (hn : 0 < n) (hc : ∀ j, j < n * 8 → (w.cell? ⟨g, j, none⟩).isSome = true) (hf : ∀ j, w.frozen? ⟨g, j, none⟩ = false) :
    ∃ vs, (Builtin.clear_ #[26] ty #[.slice (some ⟨g, 0, none⟩) n c]).run Tryz.prog w = .ok (.tuple #[]) (putAll w g 0 vs) := by
  obtain ⟨z, hz⟩ : ∃ z, z = Value.agg #[.int .i64 0, .int .i64 0, .int .i64 0, .int .i64 0, .int .i64 0, .int .i64 0, .int .i64 0, .bool false] := ⟨_, rfl⟩
  have h8 : z.cells.size = 8 := by rw [hz]; rfl
  have hl : (Builtin.zeroCells z.cells n).toList.length = n * 8 := by simp [Builtin.zeroCells, h8]
  have h1 : ∀ v ∈ (Builtin.zeroCells z.cells n).toList, v.oneCell' = true := by
    intro v hv
    simp only [Builtin.zeroCells, h8, Array.toList_map, List.mem_map] at hv
    obtain ⟨i, _, rfl⟩ := hv
    have : i % 8 = 0 ∨ i % 8 = 1 ∨ i % 8 = 2 ∨ i % 8 = 3 ∨ i % 8 = 4 ∨ i % 8 = 5 ∨ i % 8 = 6 ∨ i % 8 = 7 := by omega
    rw [hz]
    rcases this with e | e | e | e | e | e | e | e <;> rw [e] <;> rfl
  have hst := run_storeCells_cells (P := Tryz.prog) g 0 (Builtin.zeroCells z.cells n).toList 0 w (by rw [hl]; simpa using hc) (fun j _ => by simpa using hf j) h1
  simp only [Nat.add_zero] at hst
  rw [setCells_put] at hst
  refine ⟨(Builtin.zeroCells z.cells n).toList, ?_⟩
  have hzv : ∀ w : World, (zeroValue 105).run Tryz.prog w = .ok z w := fun w => by rw [hz]; exact zeroIk w
  obtain ⟨k, rfl⟩ : ∃ k, n = k + 1 := ⟨n - 1, by omega⟩
  simp [Builtin.clear_, run_underlying Tryz.underlying26, hzv, hst]
set_option maxHeartbeats 2000000 in
theorem emptyI (m : Mi) (q base : Nat) (ad : Option Addr) (cap : Nat) (w : World) (M : MgBox w q m (.slice ad m.lg.length cap)) (O : FOwn ikEnc 8 105 base w (.slice ad m.lg.length cap) m.lg) (hq : ∀ g, (Value.slice ad m.lg.length cap).ownBlock = some g → g ≠ q) :
    Calls Tryz.prog 201 #[.pointer (some ⟨q, 0, none⟩)] w fun e w' => e = .returned (.tuple #[]) ∧ MgBox w' q m (.slice ad 0 cap) ∧ Turned q (Value.slice ad m.lg.length cap).ownBlock w w' := by
  have hcl : ∃ w1, (∀ ty, (Builtin.clear_ #[26] ty #[.slice ad m.lg.length cap]).run Tryz.prog w = .ok (.tuple #[]) w1) ∧ MgBox w1 q m (.slice ad m.lg.length cap) ∧ Turned q (Value.slice ad m.lg.length cap).ownBlock w w1 := by
    cases ad with
    | none =>
      refine ⟨w, fun ty => ?_, M, Turned.refl _ _ _⟩
      simp [Builtin.clear_, run_underlying Tryz.underlying26]
    | some a =>
      by_cases h0 : m.lg.length = 0
      · refine ⟨w, fun ty => ?_, M, Turned.refl _ _ _⟩
        rw [h0]
        simp [Builtin.clear_, run_underlying Tryz.underlying26]
      · have ha : ∃ g, a = ⟨g, 0, none⟩ := by
          rcases O.2 with ⟨e, _⟩ | ⟨g, c, cur, e, _⟩
          · cases e
          · simp only [Value.slice.injEq, Option.some.injEq] at e
            exact ⟨g, e.1⟩
        obtain ⟨g, rfl⟩ := ha
        have hc : ∀ j, j < m.lg.length * 8 → (w.cell? ⟨g, j, none⟩).isSome = true := fun j hj => by
          rw [World.ownsRow.cellAt O j hj]
          have hx : (fcells ikEnc m.lg).length = m.lg.length * 8 := fcells_len ikEnc_len _
          rw [List.getElem?_eq_getElem (by omega)]
          rfl
        have hne : q ≠ g := fun e => hq g rfl e.symm
        obtain ⟨vs, hvs⟩ := clearIk w 0 g m.lg.length cap (by omega) hc (fun j => O.frozen j)
        refine ⟨putAll w g 0 vs, fun ty => hvs, M.keep (heap_putAll vs w 0 q hne), Turned.put 0 vs⟩
  obtain ⟨w1, hcl, M1, T1⟩ := hcl
  have M2 := M1.log (.slice ad 0 cap)
  have T2 := T1.set 0 (.slice ad 0 cap)
  have c0 := M.c0
  have d0 := M1.c0
  have f0 := M1.fr 0
  clear M M1 T1 O hq
  cases ad with
  | none =>
    go_enter Tryz.func201, Tryz.ntmps201
    go_wp2_with (simp only [hcl])
    go_end0
    exact ⟨rfl, M2, T2⟩
  | some a =>
    go_enter Tryz.func201, Tryz.ntmps201
    go_wp2_with (simp only [hcl])
    go_end0
    exact ⟨rfl, M2, T2⟩
theorem MgBox.fallen {w : World} {q : Nat} {m : Mi} {v : Value} (h : MgBox w q m v) : MgBox ((((((w.setCell ⟨q, 1, none⟩ (.bool false)).setCell ⟨q, 2, none⟩ (.int .i64 m.li)).setCell ⟨q, 3, none⟩ (.int .i64 0)).setCell ⟨q, 4, none⟩ (.int .i64 0)).setCell ⟨q, 5, none⟩ (.int .i64 0)).setCell ⟨q, 6, none⟩ (.int .i64 0)) q ⟨false, m.li, 0, [], 0, 0, 0⟩ v := by
  obtain ⟨h0, h1, h2, h3, h4, h5, h6, hf⟩ := h
  have h0 : (w.setCell ⟨q, 1, none⟩ (.bool false)).cell? ⟨q, 0, none⟩ = _ := (pset_else (by decide)).trans h0
  have h1 : (w.setCell ⟨q, 1, none⟩ (.bool false)).cell? ⟨q, 1, none⟩ = some (.bool false) := pset_same h1
  have h2 : (w.setCell ⟨q, 1, none⟩ (.bool false)).cell? ⟨q, 2, none⟩ = _ := (pset_else (by decide)).trans h2
  have h3 : (w.setCell ⟨q, 1, none⟩ (.bool false)).cell? ⟨q, 3, none⟩ = _ := (pset_else (by decide)).trans h3
  have h4 : (w.setCell ⟨q, 1, none⟩ (.bool false)).cell? ⟨q, 4, none⟩ = _ := (pset_else (by decide)).trans h4
  have h5 : (w.setCell ⟨q, 1, none⟩ (.bool false)).cell? ⟨q, 5, none⟩ = _ := (pset_else (by decide)).trans h5
  have h6 : (w.setCell ⟨q, 1, none⟩ (.bool false)).cell? ⟨q, 6, none⟩ = _ := (pset_else (by decide)).trans h6
  have h0 : ((w.setCell ⟨q, 1, none⟩ (.bool false)).setCell ⟨q, 2, none⟩ (.int .i64 m.li)).cell? ⟨q, 0, none⟩ = _ := (pset_else (by decide)).trans h0
  have h1 : ((w.setCell ⟨q, 1, none⟩ (.bool false)).setCell ⟨q, 2, none⟩ (.int .i64 m.li)).cell? ⟨q, 1, none⟩ = _ := (pset_else (by decide)).trans h1
  have h2 : ((w.setCell ⟨q, 1, none⟩ (.bool false)).setCell ⟨q, 2, none⟩ (.int .i64 m.li)).cell? ⟨q, 2, none⟩ = some (.int .i64 m.li) := pset_same h2
  have h3 : ((w.setCell ⟨q, 1, none⟩ (.bool false)).setCell ⟨q, 2, none⟩ (.int .i64 m.li)).cell? ⟨q, 3, none⟩ = _ := (pset_else (by decide)).trans h3
  have h4 : ((w.setCell ⟨q, 1, none⟩ (.bool false)).setCell ⟨q, 2, none⟩ (.int .i64 m.li)).cell? ⟨q, 4, none⟩ = _ := (pset_else (by decide)).trans h4
  have h5 : ((w.setCell ⟨q, 1, none⟩ (.bool false)).setCell ⟨q, 2, none⟩ (.int .i64 m.li)).cell? ⟨q, 5, none⟩ = _ := (pset_else (by decide)).trans h5
  have h6 : ((w.setCell ⟨q, 1, none⟩ (.bool false)).setCell ⟨q, 2, none⟩ (.int .i64 m.li)).cell? ⟨q, 6, none⟩ = _ := (pset_else (by decide)).trans h6
  have h0 : (((w.setCell ⟨q, 1, none⟩ (.bool false)).setCell ⟨q, 2, none⟩ (.int .i64 m.li)).setCell ⟨q, 3, none⟩ (.int .i64 0)).cell? ⟨q, 0, none⟩ = _ := (pset_else (by decide)).trans h0
  have h1 : (((w.setCell ⟨q, 1, none⟩ (.bool false)).setCell ⟨q, 2, none⟩ (.int .i64 m.li)).setCell ⟨q, 3, none⟩ (.int .i64 0)).cell? ⟨q, 1, none⟩ = _ := (pset_else (by decide)).trans h1
  have h2 : (((w.setCell ⟨q, 1, none⟩ (.bool false)).setCell ⟨q, 2, none⟩ (.int .i64 m.li)).setCell ⟨q, 3, none⟩ (.int .i64 0)).cell? ⟨q, 2, none⟩ = _ := (pset_else (by decide)).trans h2
  have h3 : (((w.setCell ⟨q, 1, none⟩ (.bool false)).setCell ⟨q, 2, none⟩ (.int .i64 m.li)).setCell ⟨q, 3, none⟩ (.int .i64 0)).cell? ⟨q, 3, none⟩ = some (.int .i64 0) := pset_same h3
  have h4 : (((w.setCell ⟨q, 1, none⟩ (.bool false)).setCell ⟨q, 2, none⟩ (.int .i64 m.li)).setCell ⟨q, 3, none⟩ (.int .i64 0)).cell? ⟨q, 4, none⟩ = _ := (pset_else (by decide)).trans h4
  have h5 : (((w.setCell ⟨q, 1, none⟩ (.bool false)).setCell ⟨q, 2, none⟩ (.int .i64 m.li)).setCell ⟨q, 3, none⟩ (.int .i64 0)).cell? ⟨q, 5, none⟩ = _ := (pset_else (by decide)).trans h5
  have h6 : (((w.setCell ⟨q, 1, none⟩ (.bool false)).setCell ⟨q, 2, none⟩ (.int .i64 m.li)).setCell ⟨q, 3, none⟩ (.int .i64 0)).cell? ⟨q, 6, none⟩ = _ := (pset_else (by decide)).trans h6
  have h0 : ((((w.setCell ⟨q, 1, none⟩ (.bool false)).setCell ⟨q, 2, none⟩ (.int .i64 m.li)).setCell ⟨q, 3, none⟩ (.int .i64 0)).setCell ⟨q, 4, none⟩ (.int .i64 0)).cell? ⟨q, 0, none⟩ = _ := (pset_else (by decide)).trans h0
  have h1 : ((((w.setCell ⟨q, 1, none⟩ (.bool false)).setCell ⟨q, 2, none⟩ (.int .i64 m.li)).setCell ⟨q, 3, none⟩ (.int .i64 0)).setCell ⟨q, 4, none⟩ (.int .i64 0)).cell? ⟨q, 1, none⟩ = _ := (pset_else (by decide)).trans h1
  have h2 : ((((w.setCell ⟨q, 1, none⟩ (.bool false)).setCell ⟨q, 2, none⟩ (.int .i64 m.li)).setCell ⟨q, 3, none⟩ (.int .i64 0)).setCell ⟨q, 4, none⟩ (.int .i64 0)).cell? ⟨q, 2, none⟩ = _ := (pset_else (by decide)).trans h2
  have h3 : ((((w.setCell ⟨q, 1, none⟩ (.bool false)).setCell ⟨q, 2, none⟩ (.int .i64 m.li)).setCell ⟨q, 3, none⟩ (.int .i64 0)).setCell ⟨q, 4, none⟩ (.int .i64 0)).cell? ⟨q, 3, none⟩ = _ := (pset_else (by decide)).trans h3
  have h4 : ((((w.setCell ⟨q, 1, none⟩ (.bool false)).setCell ⟨q, 2, none⟩ (.int .i64 m.li)).setCell ⟨q, 3, none⟩ (.int .i64 0)).setCell ⟨q, 4, none⟩ (.int .i64 0)).cell? ⟨q, 4, none⟩ = some (.int .i64 0) := pset_same h4
  have h5 : ((((w.setCell ⟨q, 1, none⟩ (.bool false)).setCell ⟨q, 2, none⟩ (.int .i64 m.li)).setCell ⟨q, 3, none⟩ (.int .i64 0)).setCell ⟨q, 4, none⟩ (.int .i64 0)).cell? ⟨q, 5, none⟩ = _ := (pset_else (by decide)).trans h5
  have h6 : ((((w.setCell ⟨q, 1, none⟩ (.bool false)).setCell ⟨q, 2, none⟩ (.int .i64 m.li)).setCell ⟨q, 3, none⟩ (.int .i64 0)).setCell ⟨q, 4, none⟩ (.int .i64 0)).cell? ⟨q, 6, none⟩ = _ := (pset_else (by decide)).trans h6
  have h0 : (((((w.setCell ⟨q, 1, none⟩ (.bool false)).setCell ⟨q, 2, none⟩ (.int .i64 m.li)).setCell ⟨q, 3, none⟩ (.int .i64 0)).setCell ⟨q, 4, none⟩ (.int .i64 0)).setCell ⟨q, 5, none⟩ (.int .i64 0)).cell? ⟨q, 0, none⟩ = _ := (pset_else (by decide)).trans h0
  have h1 : (((((w.setCell ⟨q, 1, none⟩ (.bool false)).setCell ⟨q, 2, none⟩ (.int .i64 m.li)).setCell ⟨q, 3, none⟩ (.int .i64 0)).setCell ⟨q, 4, none⟩ (.int .i64 0)).setCell ⟨q, 5, none⟩ (.int .i64 0)).cell? ⟨q, 1, none⟩ = _ := (pset_else (by decide)).trans h1
  have h2 : (((((w.setCell ⟨q, 1, none⟩ (.bool false)).setCell ⟨q, 2, none⟩ (.int .i64 m.li)).setCell ⟨q, 3, none⟩ (.int .i64 0)).setCell ⟨q, 4, none⟩ (.int .i64 0)).setCell ⟨q, 5, none⟩ (.int .i64 0)).cell? ⟨q, 2, none⟩ = _ := (pset_else (by decide)).trans h2
  have h3 : (((((w.setCell ⟨q, 1, none⟩ (.bool false)).setCell ⟨q, 2, none⟩ (.int .i64 m.li)).setCell ⟨q, 3, none⟩ (.int .i64 0)).setCell ⟨q, 4, none⟩ (.int .i64 0)).setCell ⟨q, 5, none⟩ (.int .i64 0)).cell? ⟨q, 3, none⟩ = _ := (pset_else (by decide)).trans h3
  have h4 : (((((w.setCell ⟨q, 1, none⟩ (.bool false)).setCell ⟨q, 2, none⟩ (.int .i64 m.li)).setCell ⟨q, 3, none⟩ (.int .i64 0)).setCell ⟨q, 4, none⟩ (.int .i64 0)).setCell ⟨q, 5, none⟩ (.int .i64 0)).cell? ⟨q, 4, none⟩ = _ := (pset_else (by decide)).trans h4
  have h5 : (((((w.setCell ⟨q, 1, none⟩ (.bool false)).setCell ⟨q, 2, none⟩ (.int .i64 m.li)).setCell ⟨q, 3, none⟩ (.int .i64 0)).setCell ⟨q, 4, none⟩ (.int .i64 0)).setCell ⟨q, 5, none⟩ (.int .i64 0)).cell? ⟨q, 5, none⟩ = some (.int .i64 0) := pset_same h5
  have h6 : (((((w.setCell ⟨q, 1, none⟩ (.bool false)).setCell ⟨q, 2, none⟩ (.int .i64 m.li)).setCell ⟨q, 3, none⟩ (.int .i64 0)).setCell ⟨q, 4, none⟩ (.int .i64 0)).setCell ⟨q, 5, none⟩ (.int .i64 0)).cell? ⟨q, 6, none⟩ = _ := (pset_else (by decide)).trans h6
  have h0 : ((((((w.setCell ⟨q, 1, none⟩ (.bool false)).setCell ⟨q, 2, none⟩ (.int .i64 m.li)).setCell ⟨q, 3, none⟩ (.int .i64 0)).setCell ⟨q, 4, none⟩ (.int .i64 0)).setCell ⟨q, 5, none⟩ (.int .i64 0)).setCell ⟨q, 6, none⟩ (.int .i64 0)).cell? ⟨q, 0, none⟩ = _ := (pset_else (by decide)).trans h0
  have h1 : ((((((w.setCell ⟨q, 1, none⟩ (.bool false)).setCell ⟨q, 2, none⟩ (.int .i64 m.li)).setCell ⟨q, 3, none⟩ (.int .i64 0)).setCell ⟨q, 4, none⟩ (.int .i64 0)).setCell ⟨q, 5, none⟩ (.int .i64 0)).setCell ⟨q, 6, none⟩ (.int .i64 0)).cell? ⟨q, 1, none⟩ = _ := (pset_else (by decide)).trans h1
  have h2 : ((((((w.setCell ⟨q, 1, none⟩ (.bool false)).setCell ⟨q, 2, none⟩ (.int .i64 m.li)).setCell ⟨q, 3, none⟩ (.int .i64 0)).setCell ⟨q, 4, none⟩ (.int .i64 0)).setCell ⟨q, 5, none⟩ (.int .i64 0)).setCell ⟨q, 6, none⟩ (.int .i64 0)).cell? ⟨q, 2, none⟩ = _ := (pset_else (by decide)).trans h2
  have h3 : ((((((w.setCell ⟨q, 1, none⟩ (.bool false)).setCell ⟨q, 2, none⟩ (.int .i64 m.li)).setCell ⟨q, 3, none⟩ (.int .i64 0)).setCell ⟨q, 4, none⟩ (.int .i64 0)).setCell ⟨q, 5, none⟩ (.int .i64 0)).setCell ⟨q, 6, none⟩ (.int .i64 0)).cell? ⟨q, 3, none⟩ = _ := (pset_else (by decide)).trans h3
  have h4 : ((((((w.setCell ⟨q, 1, none⟩ (.bool false)).setCell ⟨q, 2, none⟩ (.int .i64 m.li)).setCell ⟨q, 3, none⟩ (.int .i64 0)).setCell ⟨q, 4, none⟩ (.int .i64 0)).setCell ⟨q, 5, none⟩ (.int .i64 0)).setCell ⟨q, 6, none⟩ (.int .i64 0)).cell? ⟨q, 4, none⟩ = _ := (pset_else (by decide)).trans h4
  have h5 : ((((((w.setCell ⟨q, 1, none⟩ (.bool false)).setCell ⟨q, 2, none⟩ (.int .i64 m.li)).setCell ⟨q, 3, none⟩ (.int .i64 0)).setCell ⟨q, 4, none⟩ (.int .i64 0)).setCell ⟨q, 5, none⟩ (.int .i64 0)).setCell ⟨q, 6, none⟩ (.int .i64 0)).cell? ⟨q, 5, none⟩ = _ := (pset_else (by decide)).trans h5
  have h6 : ((((((w.setCell ⟨q, 1, none⟩ (.bool false)).setCell ⟨q, 2, none⟩ (.int .i64 m.li)).setCell ⟨q, 3, none⟩ (.int .i64 0)).setCell ⟨q, 4, none⟩ (.int .i64 0)).setCell ⟨q, 5, none⟩ (.int .i64 0)).setCell ⟨q, 6, none⟩ (.int .i64 0)).cell? ⟨q, 6, none⟩ = some (.int .i64 0) := pset_same h6
  refine ⟨h0, h1, h2, h3, h4, h5, h6, fun i => ?_⟩
  rw [World.frozen?_setCell, World.frozen?_setCell, World.frozen?_setCell, World.frozen?_setCell, World.frozen?_setCell, World.frozen?_setCell]
  exact hf i
set_option maxHeartbeats 2000000 in
theorem fallI (m : Mi) (q base : Nat) (ad : Option Addr) (cap : Nat) (w : World) (M : MgBox w q m (.slice ad m.lg.length cap)) (O : FOwn ikEnc 8 105 base w (.slice ad m.lg.length cap) m.lg) (hq : ∀ g, (Value.slice ad m.lg.length cap).ownBlock = some g → g ≠ q) :
    Calls Tryz.prog 175 #[.pointer (some ⟨q, 0, none⟩)] w fun e w' => e = .returned (.tuple #[]) ∧ MgBox w' q ⟨false, m.li, 0, [], 0, 0, 0⟩ (.slice ad 0 cap) ∧ Turned q (Value.slice ad m.lg.length cap).ownBlock w w' := by
  go_enter Tryz.func175, Tryz.ntmps175
  go_wp2_with fail
  go_at_call 201
  refine (emptyI m q base ad cap w M O hq).mono ?_
  rintro e w1 ⟨rfl, M1, T1⟩
  have M2 := M1.fallen
  have T3 : Turned q (Value.slice ad m.lg.length cap).ownBlock w ((((((w1.setCell ⟨q, 1, none⟩ (.bool false)).setCell ⟨q, 2, none⟩ (.int .i64 m.li)).setCell ⟨q, 3, none⟩ (.int .i64 0)).setCell ⟨q, 4, none⟩ (.int .i64 0)).setCell ⟨q, 5, none⟩ (.int .i64 0)).setCell ⟨q, 6, none⟩ (.int .i64 0)) := ((((((T1.set 1 _).set 2 _).set 3 _).set 4 _).set 5 _).set 6 _)
  clear T1 O hq M
  obtain ⟨c0, c1, c2, c3, c4, c5, c6, fr⟩ := M1
  have f1 := fr 1
  have f2 := fr 2
  have f3 := fr 3
  have f4 := fr 4
  have f5 := fr 5
  have f6 := fr 6
  clear fr
  go_wp2
  go_end0
  exact ⟨rfl, M2, T3⟩

end Go.Proofs.YtnpiljegdiconaaGreat
namespace Go.Proofs.YtnpiljegdiconaaGreat
open Go.ChangeShapes Go.WideShapes Go.ChangeAt Go.RowKit
open Go.ChangeMaps (open_string shut_string)
set_option linter.unusedVariables false
set_option maxRecDepth 100000

/-- What isFallen answers. -/
def fallB (m : Mi) : Bool := decide (m.up = false ∧ m.ep = 0 ∧ m.sd = 0 ∧ m.ac = 0 ∧ m.al = 0) && decide (m.lg.length = 0)
theorem eqMarks (m : Mi) (w : World) : (binOp .eql 163 (.agg #[.bool m.up, .int .i64 m.li, .int .i64 m.ep, .int .i64 m.sd, .int .i64 m.ac, .int .i64 m.al]) (.agg #[.bool false, .int .i64 m.li, .int .i64 0, .int .i64 0, .int .i64 0, .int .i64 0])).run Tryz.prog w = .ok (.bool (decide (m.up = false ∧ m.ep = 0 ∧ m.sd = 0 ∧ m.ac = 0 ∧ m.al = 0))) w := by
  go_simp
  all_goals ((repeat' split) <;> first | (simp_all; done) | grind)
set_option maxHeartbeats 4000000 in
theorem fallenI (m : Mi) (ad : Option Addr) (cap : Nat) (w : World) (hv : FView ikEnc w ad m.lg) (hl : m.lg.length ≤ 1048577) :
    Calls Tryz.prog 127 #[.agg #[.bool m.up, .int .i64 m.li, .int .i64 m.ep, .slice ad m.lg.length cap, .int .i64 m.sd, .int .i64 m.ac, .int .i64 m.al]] w fun e w' => e = .returned (.bool (fallB m)) ∧ Below w.heap.size w w' := by
  have hB := hv.lt ikEnc_len (by omega)
  have eM := eqMarks m
  obtain ⟨R, hR⟩ : ∃ R, R = fallB m := ⟨_, rfl⟩
  rw [← hR]
  replace hR : Hid _ := hR
  obtain ⟨y, hy⟩ : ∃ y, y = w.alloc (Obj.cells #[.bool m.up, .int .i64 m.li, .int .i64 m.ep, .slice ad m.lg.length cap, .int .i64 m.sd, .int .i64 m.ac, .int .i64 m.al] 28) := ⟨_, rfl⟩
  have B0 : Below w.heap.size w y := by rw [hy]; exact below_new _
  have A : MiAt y w.heap.size m (.slice ad m.lg.length cap) := by rw [hy]; exact MiAt.new w _ _ _
  have S0 := A.lt
  have hv1 := hv.below B0 hB
  clear hv
  go_enter Tryz.func127, Tryz.ntmps127
  go_upto_region 1 with fail
  rw [← hy]
  clear hy
  refine wp_region_held (S := fun Y => Below y.heap.size y Y) (by kernel_rfl) ?_
  change wpAnyH _ _ _ _ _ _ _ _ (World.drew _)
  have hb0 : Below y.heap.size y y.drew := (Below.refl _ _).drew
  obtain ⟨u0, hy0⟩ : ∃ y_, y_ = y.drew := ⟨_, rfl⟩
  rw [← hy0] at hb0 ⊢
  clear hy0
  refine takeW 0 5 (.agg #[.bool m.up, .int .i64 m.li, .int .i64 m.ep, .slice ad m.lg.length cap, .int .i64 m.sd, .int .i64 m.ac, .int .i64 m.al]) rfl rfl (by kernel_rfl) (by kernel_rfl) (by kernel_rfl) (fun _ _ _ h => h) (by kernel_rfl) (by (intro Y hSw; obtain ⟨X0, X1, X2, X3, X4, X5, X6⟩ := A.below hSw A.lt; go_simp)) (by assumption) ?_
  simp only [List.set_cons_zero, List.set_cons_succ]
  refine takeW 2 7 (.agg #[.bool m.up, .int .i64 m.li, .int .i64 m.ep, .slice ad m.lg.length cap, .int .i64 m.sd, .int .i64 m.ac, .int .i64 m.al]) rfl rfl (by kernel_rfl) (by kernel_rfl) (by kernel_rfl) (fun _ _ _ h => h) (by kernel_rfl) (by (intro Y hSw; obtain ⟨X0, X1, X2, X3, X4, X5, X6⟩ := A.below hSw A.lt; go_simp)) (by assumption) ?_
  simp only [List.set_cons_zero, List.set_cons_succ]
  refine wpAnyH_all (rs := [1]) (by kernel_rfl) (by simp) ?_
  intro i hi; obtain rfl : i = 1 := by simpa using hi
  refine wpOp_step rfl (fun Kz hKz => ?_)
  rw [if_pos (by kernel_rfl)]
  go_simp
  go_at_call 56
  refine (mindOf m ad cap u0 (hv1.below hb0 (hv1.lt ikEnc_len (by omega))) hl).mono ?_
  rintro e u1 ⟨q1, a1, c1, rfl, M1, O1, lo1, lq1, kq⟩
  have hb1 : Below y.heap.size y u1 := hb0.trans (kq.mono hb0.size)
  have su1 := kq.size
  have sb0 := hb0.size
  have sq1 := M1.lt
  clear kq
  refine hKz _ _ ⟨hb1, ?_⟩
  clear hKz Kz hi
  refine wpAnyH_all (rs := [3]) (by kernel_rfl) (by simp) ?_
  intro i hi; obtain rfl : i = 3 := by simpa using hi
  refine wpOp_step rfl (fun Kz hKz => ?_)
  rw [if_pos (by kernel_rfl)]
  go_simp
  go_at_call 56
  refine (mindOf m ad cap u1 (hv1.below hb1 (hv1.lt ikEnc_len (by omega))) hl).mono ?_
  rintro e u2 ⟨q2, a2, c2, rfl, M2, O2, lo2, lq2, kq⟩
  have hb2 : Below y.heap.size y u2 := hb1.trans (kq.mono hb1.size)
  have su2 := kq.size
  have sb1 := hb1.size
  have sq2 := M2.lt
  have M1 := M1.below kq M1.lt
  clear kq
  refine hKz _ _ ⟨hb2, ?_⟩
  clear hKz Kz hi
  have hne1 : q1 ≠ q2 := by omega
  have hne2 : ∀ g, (Value.slice a2 m.lg.length c2).ownBlock = some g → g ≠ q1 := fun g e => by have := (O2.lt g e).1; omega
  have hne3 : ∀ g, (Value.slice a2 m.lg.length c2).ownBlock = some g → g ≠ q2 := fun g e => by have := lo2 g e; omega
  have hlo : y.heap.size ≤ q2 := by omega
  have hlo2 : ∀ g, (Value.slice a2 m.lg.length c2).ownBlock = some g → y.heap.size ≤ g := fun g e => by have := (O2.lt g e).1; omega
  clear lo2
  refine takeW 4 3 (.pointer (some ⟨q1, 0, none⟩)) rfl rfl (by kernel_rfl) (by kernel_rfl) (by kernel_rfl) (fun _ _ _ h => h) (by kernel_rfl) (by (intro w hSw; go_simp)) (by assumption) ?_
  simp only [List.set_cons_zero, List.set_cons_succ]
  refine takeW 5 4 (.pointer (some ⟨q2, 0, none⟩)) rfl rfl (by kernel_rfl) (by kernel_rfl) (by kernel_rfl) (fun _ _ _ h => h) (by kernel_rfl) (by (intro w hSw; go_simp)) (by assumption) ?_
  simp only [List.set_cons_zero, List.set_cons_succ]
  refine wpAnyH_done (by kernel_rfl) ?_ _
  clear lo1 O1 hv1 A
  go_wp2_with fail
  go_at_call 175
  refine (fallI m q2 _ a2 c2 u2 M2 O2 hne3).mono ?_
  rintro e v ⟨rfl, N2, T⟩
  have M1 := M1.keep (T.block q1 M1.lt hne1 (fun e => hne2 q1 e rfl))
  have hbv : Below y.heap.size y v := hb2.trans (T.below hb2.size hlo hlo2)
  clear T M2 O2 hb2 hb1 hb0 hne2 hne3 hlo2
  go_upto_region 3 with fail
  cases hF : decide (m.up = false ∧ m.ep = 0 ∧ m.sd = 0 ∧ m.ac = 0 ∧ m.al = 0)
  · rw [hF] at eM
    replace hF : Hid _ := hF
    refine wp_region_held (S := fun Y => Below v.heap.size v Y) (by kernel_rfl) ?_
    change wpAnyH _ _ _ _ _ _ _ _ (World.drew _)
    have hb0 : Below v.heap.size v v.drew := (Below.refl _ _).drew
    obtain ⟨u0, hy0⟩ : ∃ y_, y_ = v.drew := ⟨_, rfl⟩
    rw [← hy0] at hb0 ⊢
    clear hy0
    refine takeW 0 11 (.pointer (some ⟨q1, 0, none⟩)) rfl rfl (by kernel_rfl) (by kernel_rfl) (by kernel_rfl) (fun _ _ _ h => h) (by kernel_rfl) (by (intro w hSw; go_simp)) (by assumption) ?_
    simp only [List.set_cons_zero, List.set_cons_succ]
    refine takeW 1 12 (.pointer (some ⟨q1, 0, none⟩)) rfl rfl (by kernel_rfl) (by kernel_rfl) (by kernel_rfl) (fun _ _ _ h => h) (by kernel_rfl) (by (intro w hSw; go_simp)) (by assumption) ?_
    simp only [List.set_cons_zero, List.set_cons_succ]
    refine takeW 2 13 (.pointer (some ⟨q1, 1, none⟩)) rfl rfl (by kernel_rfl) (by kernel_rfl) (by kernel_rfl) (fun _ _ _ h => h) (by kernel_rfl) (by (intro w hSw; go_simp)) (by assumption) ?_
    simp only [List.set_cons_zero, List.set_cons_succ]
    refine takeW 3 14 (.agg #[.bool m.up, .int .i64 m.li, .int .i64 m.ep, .int .i64 m.sd, .int .i64 m.ac, .int .i64 m.al]) rfl rfl (by kernel_rfl) (by kernel_rfl) (by kernel_rfl) (fun _ _ _ h => h) (by kernel_rfl) (by (intro Y hSw; obtain ⟨X0, X1, X2, X3, X4, X5, X6, XF⟩ := M1.below hSw M1.lt; go_simp)) (by assumption) ?_
    simp only [List.set_cons_zero, List.set_cons_succ]
    refine takeW 4 15 (.pointer (some ⟨q2, 0, none⟩)) rfl rfl (by kernel_rfl) (by kernel_rfl) (by kernel_rfl) (fun _ _ _ h => h) (by kernel_rfl) (by (intro w hSw; go_simp)) (by assumption) ?_
    simp only [List.set_cons_zero, List.set_cons_succ]
    refine takeW 5 16 (.pointer (some ⟨q2, 0, none⟩)) rfl rfl (by kernel_rfl) (by kernel_rfl) (by kernel_rfl) (fun _ _ _ h => h) (by kernel_rfl) (by (intro w hSw; go_simp)) (by assumption) ?_
    simp only [List.set_cons_zero, List.set_cons_succ]
    refine takeW 6 17 (.pointer (some ⟨q2, 1, none⟩)) rfl rfl (by kernel_rfl) (by kernel_rfl) (by kernel_rfl) (fun _ _ _ h => h) (by kernel_rfl) (by (intro w hSw; go_simp)) (by assumption) ?_
    simp only [List.set_cons_zero, List.set_cons_succ]
    refine takeW 7 18 (.agg #[.bool false, .int .i64 m.li, .int .i64 0, .int .i64 0, .int .i64 0, .int .i64 0]) rfl rfl (by kernel_rfl) (by kernel_rfl) (by kernel_rfl) (fun _ _ _ h => h) (by kernel_rfl) (by (intro Y hSw; obtain ⟨X0, X1, X2, X3, X4, X5, X6, XF⟩ := N2.below hSw N2.lt; go_simp)) (by assumption) ?_
    simp only [List.set_cons_zero, List.set_cons_succ]
    refine takeW 8 19 (.bool false) rfl rfl (by kernel_rfl) (by kernel_rfl) (by kernel_rfl) (fun _ _ _ h => h) (by kernel_rfl) (by (intro w hSw; go_simp)) (by assumption) ?_
    simp only [List.set_cons_zero, List.set_cons_succ]
    refine takeW 9 20 (.bool false) rfl rfl (by kernel_rfl) (by kernel_rfl) (by kernel_rfl) (fun _ _ _ h => h) (by kernel_rfl) (by (intro w hSw; go_simp)) (by assumption) ?_
    simp only [List.set_cons_zero, List.set_cons_succ]
    refine takeS 10 21 rfl rfl (by kernel_rfl) (by kernel_rfl) (by kernel_rfl) (fun _ _ _ h => h) (by kernel_rfl) (by assumption) ?_
    simp only [List.set_cons_zero, List.set_cons_succ]
    refine takeS 11 22 rfl rfl (by kernel_rfl) (by kernel_rfl) (by kernel_rfl) (fun _ _ _ h => h) (by kernel_rfl) (by assumption) ?_
    simp only [List.set_cons_zero, List.set_cons_succ]
    refine takeS 12 23 rfl rfl (by kernel_rfl) (by kernel_rfl) (by kernel_rfl) (fun _ _ _ h => h) (by kernel_rfl) (by assumption) ?_
    simp only [List.set_cons_zero, List.set_cons_succ]
    refine takeS 13 24 rfl rfl (by kernel_rfl) (by kernel_rfl) (by kernel_rfl) (fun _ _ _ h => h) (by kernel_rfl) (by assumption) ?_
    simp only [List.set_cons_zero, List.set_cons_succ]
    refine takeS 14 25 rfl rfl (by kernel_rfl) (by kernel_rfl) (by kernel_rfl) (fun _ _ _ h => h) (by kernel_rfl) (by assumption) ?_
    simp only [List.set_cons_zero, List.set_cons_succ]
    refine takeS 15 26 rfl rfl (by kernel_rfl) (by kernel_rfl) (by kernel_rfl) (fun _ _ _ h => h) (by kernel_rfl) (by assumption) ?_
    simp only [List.set_cons_zero, List.set_cons_succ]
    refine takeS 16 27 rfl rfl (by kernel_rfl) (by kernel_rfl) (by kernel_rfl) (fun _ _ _ h => h) (by kernel_rfl) (by assumption) ?_
    simp only [List.set_cons_zero, List.set_cons_succ]
    refine takeS 17 28 rfl rfl (by kernel_rfl) (by kernel_rfl) (by kernel_rfl) (fun _ _ _ h => h) (by kernel_rfl) (by assumption) ?_
    simp only [List.set_cons_zero, List.set_cons_succ]
    refine takeS 18 29 rfl rfl (by kernel_rfl) (by kernel_rfl) (by kernel_rfl) (fun _ _ _ h => h) (by kernel_rfl) (by assumption) ?_
    simp only [List.set_cons_zero, List.set_cons_succ]
    refine takeW 19 30 (.bool false) rfl rfl (by kernel_rfl) (by kernel_rfl) (by kernel_rfl) (fun _ _ _ h => h) (by kernel_rfl) (by (intro w hSw; go_simp)) (by assumption) ?_
    simp only [List.set_cons_zero, List.set_cons_succ]
    refine takeW 20 2 (.bool false) rfl rfl (by kernel_rfl) (by kernel_rfl) (by kernel_rfl) (fun _ _ _ h => h) (by kernel_rfl) (by (intro w hSw; go_simp)) (by assumption) ?_
    simp only [List.set_cons_zero, List.set_cons_succ]
    refine wpAnyH_done (by kernel_rfl) ?_ _
    have hN : Hid (R = false) := by unfold Hid; rw [hR.out]; unfold fallB; rw [hF.out]; rfl
    go_wp2
    go_ret
    exact ⟨by rw [hN.out]; rfl, B0.trans ((hbv.trans (hb0.mono hbv.size)).mono B0.size)⟩
  · rw [hF] at eM
    replace hF : Hid _ := hF
    cases hG : decide (m.lg.length = 0)
    · have dG : ((m.lg.length : Int) == 0) = false := by rw [beq_eq_false_iff_ne]; have := of_decide_eq_false hG; omega
      replace hG : Hid _ := hG
      refine wp_region_held (S := fun Y => Below v.heap.size v Y) (by kernel_rfl) ?_
      change wpAnyH _ _ _ _ _ _ _ _ (World.drew _)
      have hb0 : Below v.heap.size v v.drew := (Below.refl _ _).drew
      obtain ⟨u0, hy0⟩ : ∃ y_, y_ = v.drew := ⟨_, rfl⟩
      rw [← hy0] at hb0 ⊢
      clear hy0
      refine takeW 0 11 (.pointer (some ⟨q1, 0, none⟩)) rfl rfl (by kernel_rfl) (by kernel_rfl) (by kernel_rfl) (fun _ _ _ h => h) (by kernel_rfl) (by (intro w hSw; go_simp)) (by assumption) ?_
      simp only [List.set_cons_zero, List.set_cons_succ]
      refine takeW 1 12 (.pointer (some ⟨q1, 0, none⟩)) rfl rfl (by kernel_rfl) (by kernel_rfl) (by kernel_rfl) (fun _ _ _ h => h) (by kernel_rfl) (by (intro w hSw; go_simp)) (by assumption) ?_
      simp only [List.set_cons_zero, List.set_cons_succ]
      refine takeW 2 13 (.pointer (some ⟨q1, 1, none⟩)) rfl rfl (by kernel_rfl) (by kernel_rfl) (by kernel_rfl) (fun _ _ _ h => h) (by kernel_rfl) (by (intro w hSw; go_simp)) (by assumption) ?_
      simp only [List.set_cons_zero, List.set_cons_succ]
      refine takeW 3 14 (.agg #[.bool m.up, .int .i64 m.li, .int .i64 m.ep, .int .i64 m.sd, .int .i64 m.ac, .int .i64 m.al]) rfl rfl (by kernel_rfl) (by kernel_rfl) (by kernel_rfl) (fun _ _ _ h => h) (by kernel_rfl) (by (intro Y hSw; obtain ⟨X0, X1, X2, X3, X4, X5, X6, XF⟩ := M1.below hSw M1.lt; go_simp)) (by assumption) ?_
      simp only [List.set_cons_zero, List.set_cons_succ]
      refine takeW 4 15 (.pointer (some ⟨q2, 0, none⟩)) rfl rfl (by kernel_rfl) (by kernel_rfl) (by kernel_rfl) (fun _ _ _ h => h) (by kernel_rfl) (by (intro w hSw; go_simp)) (by assumption) ?_
      simp only [List.set_cons_zero, List.set_cons_succ]
      refine takeW 5 16 (.pointer (some ⟨q2, 0, none⟩)) rfl rfl (by kernel_rfl) (by kernel_rfl) (by kernel_rfl) (fun _ _ _ h => h) (by kernel_rfl) (by (intro w hSw; go_simp)) (by assumption) ?_
      simp only [List.set_cons_zero, List.set_cons_succ]
      refine takeW 6 17 (.pointer (some ⟨q2, 1, none⟩)) rfl rfl (by kernel_rfl) (by kernel_rfl) (by kernel_rfl) (fun _ _ _ h => h) (by kernel_rfl) (by (intro w hSw; go_simp)) (by assumption) ?_
      simp only [List.set_cons_zero, List.set_cons_succ]
      refine takeW 7 18 (.agg #[.bool false, .int .i64 m.li, .int .i64 0, .int .i64 0, .int .i64 0, .int .i64 0]) rfl rfl (by kernel_rfl) (by kernel_rfl) (by kernel_rfl) (fun _ _ _ h => h) (by kernel_rfl) (by (intro Y hSw; obtain ⟨X0, X1, X2, X3, X4, X5, X6, XF⟩ := N2.below hSw N2.lt; go_simp)) (by assumption) ?_
      simp only [List.set_cons_zero, List.set_cons_succ]
      refine takeW 8 19 (.bool true) rfl rfl (by kernel_rfl) (by kernel_rfl) (by kernel_rfl) (fun _ _ _ h => h) (by kernel_rfl) (by (intro w hSw; go_simp)) (by assumption) ?_
      simp only [List.set_cons_zero, List.set_cons_succ]
      refine takeW 9 20 (.bool true) rfl rfl (by kernel_rfl) (by kernel_rfl) (by kernel_rfl) (fun _ _ _ h => h) (by kernel_rfl) (by (intro w hSw; go_simp)) (by assumption) ?_
      simp only [List.set_cons_zero, List.set_cons_succ]
      refine takeW 10 21 (.pointer (some ⟨q1, 0, none⟩)) rfl rfl (by kernel_rfl) (by kernel_rfl) (by kernel_rfl) (fun _ _ _ h => h) (by kernel_rfl) (by (intro w hSw; go_simp)) (by assumption) ?_
      simp only [List.set_cons_zero, List.set_cons_succ]
      refine takeW 11 22 (.pointer (some ⟨q1, 0, none⟩)) rfl rfl (by kernel_rfl) (by kernel_rfl) (by kernel_rfl) (fun _ _ _ h => h) (by kernel_rfl) (by (intro w hSw; go_simp)) (by assumption) ?_
      simp only [List.set_cons_zero, List.set_cons_succ]
      refine takeW 12 23 (.pointer (some ⟨q1, 0, none⟩)) rfl rfl (by kernel_rfl) (by kernel_rfl) (by kernel_rfl) (fun _ _ _ h => h) (by kernel_rfl) (by (intro w hSw; go_simp)) (by assumption) ?_
      simp only [List.set_cons_zero, List.set_cons_succ]
      refine takeW 14 25 (.pointer (some ⟨q2, 0, none⟩)) rfl rfl (by kernel_rfl) (by kernel_rfl) (by kernel_rfl) (fun _ _ _ h => h) (by kernel_rfl) (by (intro w hSw; go_simp)) (by assumption) ?_
      simp only [List.set_cons_zero, List.set_cons_succ]
      refine takeW 15 26 (.pointer (some ⟨q2, 0, none⟩)) rfl rfl (by kernel_rfl) (by kernel_rfl) (by kernel_rfl) (fun _ _ _ h => h) (by kernel_rfl) (by (intro w hSw; go_simp)) (by assumption) ?_
      simp only [List.set_cons_zero, List.set_cons_succ]
      refine takeW 16 27 (.pointer (some ⟨q2, 0, none⟩)) rfl rfl (by kernel_rfl) (by kernel_rfl) (by kernel_rfl) (fun _ _ _ h => h) (by kernel_rfl) (by (intro w hSw; go_simp)) (by assumption) ?_
      simp only [List.set_cons_zero, List.set_cons_succ]
      refine wpAnyH_all (rs := [13]) (by kernel_rfl) (by simp) ?_
      intro i hi; obtain rfl : i = 13 := by simpa using hi
      refine wpOp_step rfl (fun Kz hKz => ?_)
      rw [if_pos (by kernel_rfl)]
      go_simp
      go_at_call 172
      refine (countI q1 m.lg.length a1 c1 u0 (M1.below hb0 M1.lt).c0).mono ?_
      rintro e u1 ⟨rfl, kq⟩
      have hb1 : Below v.heap.size v u1 := by rw [kq]; exact hb0
      clear kq
      refine hKz _ _ ⟨hb1, ?_⟩
      clear hKz Kz hi
      refine wpAnyH_all (rs := [17]) (by kernel_rfl) (by simp) ?_
      intro i hi; obtain rfl : i = 17 := by simpa using hi
      refine wpOp_step rfl (fun Kz hKz => ?_)
      rw [if_pos (by kernel_rfl)]
      go_simp
      go_at_call 172
      refine (countI q2 0 a2 c2 u1 (N2.below hb1 N2.lt).c0).mono ?_
      rintro e u2 ⟨rfl, kq⟩
      have hb2 : Below v.heap.size v u2 := by rw [kq]; exact hb1
      clear kq
      refine hKz _ _ ⟨hb2, ?_⟩
      clear hKz Kz hi
      refine takeW 18 29 (.bool false) rfl rfl (by kernel_rfl) (by kernel_rfl) (by kernel_rfl) (fun _ _ _ h => h) (by kernel_rfl) (by (intro w hSw; go_simp)) (by assumption) ?_
      simp only [List.set_cons_zero, List.set_cons_succ]
      refine takeW 19 30 (.bool false) rfl rfl (by kernel_rfl) (by kernel_rfl) (by kernel_rfl) (fun _ _ _ h => h) (by kernel_rfl) (by (intro w hSw; go_simp)) (by assumption) ?_
      simp only [List.set_cons_zero, List.set_cons_succ]
      refine takeW 20 2 (.bool false) rfl rfl (by kernel_rfl) (by kernel_rfl) (by kernel_rfl) (fun _ _ _ h => h) (by kernel_rfl) (by (intro w hSw; go_simp)) (by assumption) ?_
      simp only [List.set_cons_zero, List.set_cons_succ]
      refine wpAnyH_done (by kernel_rfl) ?_ _
      have hN : Hid (R = false) := by unfold Hid; rw [hR.out]; unfold fallB; rw [hF.out, hG.out]; rfl
      go_wp2
      go_ret
      exact ⟨by rw [hN.out]; rfl, B0.trans ((hbv.trans (hb2.mono hbv.size)).mono B0.size)⟩
    · have dG : ((m.lg.length : Int) == 0) = true := by rw [beq_iff_eq]; have := of_decide_eq_true hG; omega
      replace hG : Hid _ := hG
      refine wp_region_held (S := fun Y => Below v.heap.size v Y) (by kernel_rfl) ?_
      change wpAnyH _ _ _ _ _ _ _ _ (World.drew _)
      have hb0 : Below v.heap.size v v.drew := (Below.refl _ _).drew
      obtain ⟨u0, hy0⟩ : ∃ y_, y_ = v.drew := ⟨_, rfl⟩
      rw [← hy0] at hb0 ⊢
      clear hy0
      refine takeW 0 11 (.pointer (some ⟨q1, 0, none⟩)) rfl rfl (by kernel_rfl) (by kernel_rfl) (by kernel_rfl) (fun _ _ _ h => h) (by kernel_rfl) (by (intro w hSw; go_simp)) (by assumption) ?_
      simp only [List.set_cons_zero, List.set_cons_succ]
      refine takeW 1 12 (.pointer (some ⟨q1, 0, none⟩)) rfl rfl (by kernel_rfl) (by kernel_rfl) (by kernel_rfl) (fun _ _ _ h => h) (by kernel_rfl) (by (intro w hSw; go_simp)) (by assumption) ?_
      simp only [List.set_cons_zero, List.set_cons_succ]
      refine takeW 2 13 (.pointer (some ⟨q1, 1, none⟩)) rfl rfl (by kernel_rfl) (by kernel_rfl) (by kernel_rfl) (fun _ _ _ h => h) (by kernel_rfl) (by (intro w hSw; go_simp)) (by assumption) ?_
      simp only [List.set_cons_zero, List.set_cons_succ]
      refine takeW 3 14 (.agg #[.bool m.up, .int .i64 m.li, .int .i64 m.ep, .int .i64 m.sd, .int .i64 m.ac, .int .i64 m.al]) rfl rfl (by kernel_rfl) (by kernel_rfl) (by kernel_rfl) (fun _ _ _ h => h) (by kernel_rfl) (by (intro Y hSw; obtain ⟨X0, X1, X2, X3, X4, X5, X6, XF⟩ := M1.below hSw M1.lt; go_simp)) (by assumption) ?_
      simp only [List.set_cons_zero, List.set_cons_succ]
      refine takeW 4 15 (.pointer (some ⟨q2, 0, none⟩)) rfl rfl (by kernel_rfl) (by kernel_rfl) (by kernel_rfl) (fun _ _ _ h => h) (by kernel_rfl) (by (intro w hSw; go_simp)) (by assumption) ?_
      simp only [List.set_cons_zero, List.set_cons_succ]
      refine takeW 5 16 (.pointer (some ⟨q2, 0, none⟩)) rfl rfl (by kernel_rfl) (by kernel_rfl) (by kernel_rfl) (fun _ _ _ h => h) (by kernel_rfl) (by (intro w hSw; go_simp)) (by assumption) ?_
      simp only [List.set_cons_zero, List.set_cons_succ]
      refine takeW 6 17 (.pointer (some ⟨q2, 1, none⟩)) rfl rfl (by kernel_rfl) (by kernel_rfl) (by kernel_rfl) (fun _ _ _ h => h) (by kernel_rfl) (by (intro w hSw; go_simp)) (by assumption) ?_
      simp only [List.set_cons_zero, List.set_cons_succ]
      refine takeW 7 18 (.agg #[.bool false, .int .i64 m.li, .int .i64 0, .int .i64 0, .int .i64 0, .int .i64 0]) rfl rfl (by kernel_rfl) (by kernel_rfl) (by kernel_rfl) (fun _ _ _ h => h) (by kernel_rfl) (by (intro Y hSw; obtain ⟨X0, X1, X2, X3, X4, X5, X6, XF⟩ := N2.below hSw N2.lt; go_simp)) (by assumption) ?_
      simp only [List.set_cons_zero, List.set_cons_succ]
      refine takeW 8 19 (.bool true) rfl rfl (by kernel_rfl) (by kernel_rfl) (by kernel_rfl) (fun _ _ _ h => h) (by kernel_rfl) (by (intro w hSw; go_simp)) (by assumption) ?_
      simp only [List.set_cons_zero, List.set_cons_succ]
      refine takeW 9 20 (.bool true) rfl rfl (by kernel_rfl) (by kernel_rfl) (by kernel_rfl) (fun _ _ _ h => h) (by kernel_rfl) (by (intro w hSw; go_simp)) (by assumption) ?_
      simp only [List.set_cons_zero, List.set_cons_succ]
      refine takeW 10 21 (.pointer (some ⟨q1, 0, none⟩)) rfl rfl (by kernel_rfl) (by kernel_rfl) (by kernel_rfl) (fun _ _ _ h => h) (by kernel_rfl) (by (intro w hSw; go_simp)) (by assumption) ?_
      simp only [List.set_cons_zero, List.set_cons_succ]
      refine takeW 11 22 (.pointer (some ⟨q1, 0, none⟩)) rfl rfl (by kernel_rfl) (by kernel_rfl) (by kernel_rfl) (fun _ _ _ h => h) (by kernel_rfl) (by (intro w hSw; go_simp)) (by assumption) ?_
      simp only [List.set_cons_zero, List.set_cons_succ]
      refine takeW 12 23 (.pointer (some ⟨q1, 0, none⟩)) rfl rfl (by kernel_rfl) (by kernel_rfl) (by kernel_rfl) (fun _ _ _ h => h) (by kernel_rfl) (by (intro w hSw; go_simp)) (by assumption) ?_
      simp only [List.set_cons_zero, List.set_cons_succ]
      refine takeW 14 25 (.pointer (some ⟨q2, 0, none⟩)) rfl rfl (by kernel_rfl) (by kernel_rfl) (by kernel_rfl) (fun _ _ _ h => h) (by kernel_rfl) (by (intro w hSw; go_simp)) (by assumption) ?_
      simp only [List.set_cons_zero, List.set_cons_succ]
      refine takeW 15 26 (.pointer (some ⟨q2, 0, none⟩)) rfl rfl (by kernel_rfl) (by kernel_rfl) (by kernel_rfl) (fun _ _ _ h => h) (by kernel_rfl) (by (intro w hSw; go_simp)) (by assumption) ?_
      simp only [List.set_cons_zero, List.set_cons_succ]
      refine takeW 16 27 (.pointer (some ⟨q2, 0, none⟩)) rfl rfl (by kernel_rfl) (by kernel_rfl) (by kernel_rfl) (fun _ _ _ h => h) (by kernel_rfl) (by (intro w hSw; go_simp)) (by assumption) ?_
      simp only [List.set_cons_zero, List.set_cons_succ]
      refine wpAnyH_all (rs := [13]) (by kernel_rfl) (by simp) ?_
      intro i hi; obtain rfl : i = 13 := by simpa using hi
      refine wpOp_step rfl (fun Kz hKz => ?_)
      rw [if_pos (by kernel_rfl)]
      go_simp
      go_at_call 172
      refine (countI q1 m.lg.length a1 c1 u0 (M1.below hb0 M1.lt).c0).mono ?_
      rintro e u1 ⟨rfl, kq⟩
      have hb1 : Below v.heap.size v u1 := by rw [kq]; exact hb0
      clear kq
      refine hKz _ _ ⟨hb1, ?_⟩
      clear hKz Kz hi
      refine wpAnyH_all (rs := [17]) (by kernel_rfl) (by simp) ?_
      intro i hi; obtain rfl : i = 17 := by simpa using hi
      refine wpOp_step rfl (fun Kz hKz => ?_)
      rw [if_pos (by kernel_rfl)]
      go_simp
      go_at_call 172
      refine (countI q2 0 a2 c2 u1 (N2.below hb1 N2.lt).c0).mono ?_
      rintro e u2 ⟨rfl, kq⟩
      have hb2 : Below v.heap.size v u2 := by rw [kq]; exact hb1
      clear kq
      refine hKz _ _ ⟨hb2, ?_⟩
      clear hKz Kz hi
      refine takeW 18 29 (.bool true) rfl rfl (by kernel_rfl) (by kernel_rfl) (by kernel_rfl) (fun _ _ _ h => h) (by kernel_rfl) (by (intro w hSw; go_simp)) (by assumption) ?_
      simp only [List.set_cons_zero, List.set_cons_succ]
      refine takeW 19 30 (.bool true) rfl rfl (by kernel_rfl) (by kernel_rfl) (by kernel_rfl) (fun _ _ _ h => h) (by kernel_rfl) (by (intro w hSw; go_simp)) (by assumption) ?_
      simp only [List.set_cons_zero, List.set_cons_succ]
      refine takeW 20 2 (.bool true) rfl rfl (by kernel_rfl) (by kernel_rfl) (by kernel_rfl) (fun _ _ _ h => h) (by kernel_rfl) (by (intro w hSw; go_simp)) (by assumption) ?_
      simp only [List.set_cons_zero, List.set_cons_succ]
      refine wpAnyH_done (by kernel_rfl) ?_ _
      have hN : Hid (R = true) := by unfold Hid; rw [hR.out]; unfold fallB; rw [hF.out, hG.out]; rfl
      go_wp2
      go_ret
      exact ⟨by rw [hN.out]; rfl, B0.trans ((hbv.trans (hb2.mono hbv.size)).mono B0.size)⟩
theorem miOk_is (m : Mi) : miOk m = (fitsM m && (m.up || fallB m)) := by
  obtain ⟨up, li, ep, L, sd, ac, al⟩ := m
  unfold miOk fitsM fallB insB
  dsimp only
  rw [Bool.eq_iff_iff]
  cases up
  · simp only [Bool.and_eq_true, Bool.or_eq_true, decide_eq_true_eq]
    constructor
    · rintro ⟨h1, h2, h3, ⟨h4, h5⟩, h6, h7, h8⟩
      rcases h8 with h8 | ⟨h8, h9, h10⟩
      · cases h8
      · exact ⟨⟨h1, h2, h3, by omega, h4, h6, h7⟩, .inr ⟨⟨trivial, h8, by omega, by omega, h10⟩, h9⟩⟩
    · rintro ⟨⟨h1, h2, h3, h4, h5, h6, h7⟩, h8⟩
      rcases h8 with h8 | ⟨⟨_, h8, h9, h10, h11⟩, h12⟩
      · cases h8
      · exact ⟨h1, h2, h3, ⟨h5, by omega⟩, h6, h7, .inr ⟨h8, h12, h11⟩⟩
  · simp only [Bool.and_eq_true, Bool.true_or, Bool.and_true, decide_eq_true_eq]
    constructor
    · rintro ⟨h1, h2, h3, ⟨h4, h5⟩, h6, h7⟩
      exact ⟨h1, h2, h3, by omega, h4, h6, h7⟩
    · rintro ⟨h1, h2, h3, h4, h5, h6, h7⟩
      exact ⟨h1, h2, h3, ⟨h5, by omega⟩, h6, h7⟩
set_option maxHeartbeats 2000000 in
theorem miOkI (m : Mi) (ad : Option Addr) (cap : Nat) (w : World) (hv : FView ikEnc w ad m.lg) (hl : m.lg.length ≤ 1048577) :
    Calls Tryz.prog 57 #[.agg #[.bool m.up, .int .i64 m.li, .int .i64 m.ep, .slice ad m.lg.length cap, .int .i64 m.sd, .int .i64 m.ac, .int .i64 m.al]] w fun e w' => e = .returned (.bool (miOk m)) ∧ Below w.heap.size w w' := by
  have hB := hv.lt ikEnc_len (by omega)
  obtain ⟨R, hR⟩ : ∃ R, R = miOk m := ⟨_, rfl⟩
  rw [← hR]
  rw [miOk_is] at hR
  replace hR : Hid _ := hR
  obtain ⟨y, hy⟩ : ∃ y, y = w.alloc (Obj.cells #[.bool m.up, .int .i64 m.li, .int .i64 m.ep, .slice ad m.lg.length cap, .int .i64 m.sd, .int .i64 m.ac, .int .i64 m.al] 28) := ⟨_, rfl⟩
  have B0 : Below w.heap.size w y := by rw [hy]; exact below_new _
  have A : MiAt y w.heap.size m (.slice ad m.lg.length cap) := by rw [hy]; exact MiAt.new w _ _ _
  have S0 := A.lt
  have hv1 := hv.below B0 hB
  clear hv
  go_enter Tryz.func57, Tryz.ntmps57
  go_wp2_with fail
  go_at_call 56
  rw [← hy]
  clear hy
  refine (mindOf m ad cap y hv1 hl).mono ?_
  rintro e u1 ⟨q, a1, c1, rfl, M1, O1, _, _, k1⟩
  have hb1 := B0.trans (k1.mono B0.size)
  have A := A.below k1 A.lt
  have hv1 := hv1.below k1 (hv1.lt ikEnc_len (by omega))
  clear k1
  go_wp2_with fail
  go_at_call 126
  refine (fitsI m q a1 c1 u1 M1 O1.view.2 hl).mono ?_
  rintro e u2 ⟨rfl, k2⟩
  have hb2 := hb1.trans (k2.mono hb1.size)
  have A := A.below k2 A.lt
  have hv1 := hv1.below k2 (hv1.lt ikEnc_len (by omega))
  clear k2 hb1 M1 O1
  cases hF : fitsM m
  · have hN : Hid (R = false) := by unfold Hid; rw [hR.out, hF]; rfl
    clear hF
    go_wp2
    go_ret
    exact ⟨by rw [hN.out]; rfl, hb2⟩
  · cases hU : m.up
    · have hN : Hid (R = fallB m) := by unfold Hid; rw [hR.out, hF, hU]; rfl
      clear hF
      have cc := A
      obtain ⟨x0, x1, x2, x3, x4, x5, x6⟩ := cc
      rw [hU] at x0
      go_wp2_with fail
      go_at_call 127
      clear x0 x1 x2 x3 x4 x5 x6
      rw [← hU]
      refine (fallenI m ad cap u2 hv1 hl).mono ?_
      rintro e u3 ⟨rfl, k3⟩
      have hb3 := hb2.trans (k3.mono hb2.size)
      rw [← hN.out]
      go_wp2
      go_ret
      exact ⟨rfl, hb3⟩
    · have hN : Hid (R = true) := by unfold Hid; rw [hR.out, hF, hU]; rfl
      clear hF
      obtain ⟨x0, x1, x2, x3, x4, x5, x6⟩ := A
      rw [hU] at x0
      go_wp2
      go_ret
      exact ⟨by rw [hN.out]; rfl, hb2⟩

end Go.Proofs.YtnpiljegdiconaaGreat
namespace Go.Proofs.YtnpiljegdiconaaGreat
open Go.ChangeShapes Go.WideShapes Go.ChangeAt Go.RowKit
open Go.ChangeMaps (open_string shut_string)
set_option linter.unusedVariables false
set_option maxRecDepth 100000

theorem noMiI (m : Mi) (ad : Option Addr) (cap : Nat) (w : World) (hv : FView ikEnc w ad m.lg) (hl : m.lg.length ≤ 1048577) : Calls Tryz.prog 84 #[.agg #[.bool m.up, .int .i64 m.li, .int .i64 m.ep, .slice ad m.lg.length cap, .int .i64 m.sd, .int .i64 m.ac, .int .i64 m.al]] w fun e w' => e = .returned (.bool (!miOk m)) ∧ Below w.heap.size w w' := by
  obtain ⟨y, hy⟩ : ∃ y, y = w.alloc (Obj.cells #[.bool m.up, .int .i64 m.li, .int .i64 m.ep, .slice ad m.lg.length cap, .int .i64 m.sd, .int .i64 m.ac, .int .i64 m.al] 28) := ⟨_, rfl⟩
  have B0 : Below w.heap.size w y := by rw [hy]; exact below_new _
  obtain ⟨o, ho⟩ : ∃ o, o = miOk m := ⟨_, rfl⟩
  rw [← ho]
  replace ho : Hid _ := ho
  go_enter Tryz.func84, Tryz.ntmps84
  go_wp2_with fail
  go_at_call 57
  rw [← hy]
  clear hy
  refine (miOkI m ad cap y (hv.below B0 (hv.lt ikEnc_len (by omega))) hl).mono ?_
  rintro e w1 ⟨rfl, k1⟩
  have B1 := B0.trans (k1.mono B0.size)
  rw [← ho.out]
  go_wp2
  go_ret
  exact ⟨rfl, B1⟩
theorem noInI (x : Ik) (w : World) : Calls Tryz.prog 88 #[.agg #[.int .i64 x.k, .int .i64 x.q, .int .i64 x.r, .int .i64 x.c, .int .i64 x.b, .int .i64 x.p, .int .i64 x.h, .bool x.up]] w fun e w' => e = .returned (.bool (!inOk x)) ∧ Below w.heap.size w w' := by
  obtain ⟨y, hy⟩ : ∃ y, y = w.alloc (Obj.cells #[.int .i64 x.k, .int .i64 x.q, .int .i64 x.r, .int .i64 x.c, .int .i64 x.b, .int .i64 x.p, .int .i64 x.h, .bool x.up] 105) := ⟨_, rfl⟩
  have B0 : Below w.heap.size w y := by rw [hy]; exact below_new _
  obtain ⟨o, ho⟩ : ∃ o, o = inOk x := ⟨_, rfl⟩
  rw [← ho]
  replace ho : Hid _ := ho
  go_enter Tryz.func88, Tryz.ntmps88
  go_wp2_with fail
  go_at_call 147
  rw [← hy]
  clear hy
  refine (inOkI x y).mono ?_
  rintro e w1 ⟨rfl, k1⟩
  have B1 := B0.trans (k1.mono B0.size)
  rw [← ho.out]
  go_wp2
  go_ret
  exact ⟨rfl, B1⟩
theorem eqInZ (x : Ik) (w : World) : (binOp .eql 105 (.agg #[.int .i64 x.k, .int .i64 x.q, .int .i64 x.r, .int .i64 x.c, .int .i64 x.b, .int .i64 x.p, .int .i64 x.h, .bool x.up]) (.agg #[.int .i64 0, .int .i64 0, .int .i64 0, .int .i64 0, .int .i64 0, .int .i64 0, .int .i64 0, .bool false])).run Tryz.prog w = .ok (.bool (inNil x)) w := by
  unfold inNil
  go_simp
  all_goals ((repeat' split) <;> first | (simp_all; done) | grind)
set_option maxHeartbeats 1000000 in
theorem loadFI (x : Wi) (w : World) : Calls Tryz.prog 145 #[.agg #[.int .i64 x.fr, .bool x.ak, .int .i64 x.li, .int .i64 x.n, .int .i64 x.x.k, .int .i64 x.x.q, .int .i64 x.x.r, .int .i64 x.x.c, .int .i64 x.x.b, .int .i64 x.x.p, .int .i64 x.x.h, .bool x.x.up]] w fun e w' => e = .returned (.bool (if x.ak then inNil x.x else inOk x.x)) ∧ Below w.heap.size w w' := by
  obtain ⟨y, hy⟩ : ∃ y, y = w.alloc (Obj.cells #[.int .i64 x.fr, .bool x.ak, .int .i64 x.li, .int .i64 x.n, .int .i64 x.x.k, .int .i64 x.x.q, .int .i64 x.x.r, .int .i64 x.x.c, .int .i64 x.x.b, .int .i64 x.x.p, .int .i64 x.x.h, .bool x.x.up] 112) := ⟨_, rfl⟩
  have B0 : Below w.heap.size w y := by rw [hy]; exact below_new _
  have U : WiAt y w.heap.size x := by rw [hy]; exact WiAt.new w _ x
  have eI := eqInZ x.x
  obtain ⟨R, hR⟩ : ∃ R, R = (if x.ak then inNil x.x else inOk x.x) := ⟨_, rfl⟩
  rw [← hR]
  replace hR : Hid _ := hR
  obtain ⟨c0, c1, c2, c3, c4, c5, c6, c7, c8, c9, c10, c11⟩ := U
  go_enter Tryz.func145, Tryz.ntmps145
  go_upto_region 1 with fail
  rw [← hy]
  clear hy
  cases h : x.ak
  · have hN : Hid (R = inOk x.x) := by unfold Hid; rw [hR.out, h]; rfl
    rw [h] at c1
    replace h : Hid _ := h
    go_wp2_with fail
    go_at_call 147
    refine (inOkI x.x y).mono ?_
    rintro e u1 ⟨rfl, k1⟩
    go_wp2
    go_ret
    exact ⟨by rw [hN.out]; rfl, B0.trans (k1.mono B0.size)⟩
  · have hN : Hid (R = inNil x.x) := by unfold Hid; rw [hR.out, h]; rfl
    rw [h] at c1
    replace h : Hid _ := h
    go_wp2
    go_ret
    exact ⟨by rw [hN.out]; rfl, B0⟩
set_option maxHeartbeats 2000000 in
theorem noWiI (x : Wi) (w : World) : Calls Tryz.prog 86 #[.agg #[.int .i64 x.fr, .bool x.ak, .int .i64 x.li, .int .i64 x.n, .int .i64 x.x.k, .int .i64 x.x.q, .int .i64 x.x.r, .int .i64 x.x.c, .int .i64 x.x.b, .int .i64 x.x.p, .int .i64 x.x.h, .bool x.x.up]] w fun e w' => e = .returned (.bool (!wiOk x)) ∧ Below w.heap.size w w' := by
  obtain ⟨y, hy⟩ : ∃ y, y = w.alloc (Obj.cells #[.int .i64 x.fr, .bool x.ak, .int .i64 x.li, .int .i64 x.n, .int .i64 x.x.k, .int .i64 x.x.q, .int .i64 x.x.r, .int .i64 x.x.c, .int .i64 x.x.b, .int .i64 x.x.p, .int .i64 x.x.h, .bool x.x.up] 112) := ⟨_, rfl⟩
  have B0 : Below w.heap.size w y := by rw [hy]; exact below_new _
  have U : WiAt y w.heap.size x := by rw [hy]; exact WiAt.new w _ x
  obtain ⟨R, hR⟩ : ∃ R, R = (!wiOk x) := ⟨_, rfl⟩
  rw [← hR]
  replace hR : Hid _ := hR
  obtain ⟨c0, c1, c2, c3, c4, c5, c6, c7, c8, c9, c10, c11⟩ := U
  go_enter Tryz.func86, Tryz.ntmps86
  go_upto_region 1 with fail
  rw [← hy]
  clear hy
  by_cases e1 : x.fr = 0
  · have d1 : (x.fr == 0) = true := by simpa using e1
    have b1 : (x.fr != 0) = false := by simpa using e1
    have hfr : Hid (decide (0 ≤ x.fr ∧ x.fr ≤ 1) = true) := decide_eq_true (by omega)
    replace e1 : Hid _ := e1
    go_wp2_with fail
    go_at_call 72
    refine (numFitsI x.li y).mono ?_
    rintro e w1 ⟨rfl, hw_⟩
    rw [hw_]
    clear hw_
    cases h1 : numB x.li
    · have hN : Hid (R = true) := by unfold Hid; rw [hR.out]; unfold wiOk; rw [hfr.out, h1]; rfl
      clear h1
      go_wp2
      go_ret
      exact ⟨by rw [hN.out]; rfl, B0⟩
    · replace h1 : Hid _ := h1
      go_wp2_with fail
      go_at_call 72
      refine (numFitsI x.n y).mono ?_
      rintro e w1 ⟨rfl, hw_⟩
      rw [hw_]
      clear hw_
      cases h2 : numB x.n
      · have hN : Hid (R = true) := by unfold Hid; rw [hR.out]; unfold wiOk; rw [hfr.out, h1.out, h2]; rfl
        clear h2
        go_wp2
        go_ret
        exact ⟨by rw [hN.out]; rfl, B0⟩
      · replace h2 : Hid _ := h2
        have hN : Hid (R = !(if x.ak then inNil x.x else inOk x.x)) := by unfold Hid; rw [hR.out]; unfold wiOk; rw [hfr.out, h1.out, h2.out]; rfl
        go_wp2_with fail
        go_at_call 145
        refine (loadFI x y).mono ?_
        rintro e u1 ⟨rfl, k1⟩
        obtain ⟨o, ho⟩ : ∃ o, o = (if x.ak then inNil x.x else inOk x.x) := ⟨_, rfl⟩
        rw [← ho] at hN ⊢
        clear ho
        go_wp2
        go_ret
        exact ⟨by rw [hN.out]; rfl, B0.trans (k1.mono B0.size)⟩
  · have d1 : (x.fr == 0) = false := by simpa using e1
    have b1 : (x.fr != 0) = true := by simpa using e1
    by_cases e2 : x.fr = 1
    · have d2 : (x.fr == 1) = true := by simpa using e2
      have b2 : (x.fr != 1) = false := by simpa using e2
      have hfr : Hid (decide (0 ≤ x.fr ∧ x.fr ≤ 1) = true) := decide_eq_true (by omega)
      replace e1 : Hid _ := e1
      replace e2 : Hid _ := e2
      go_wp2_with fail
      go_at_call 72
      refine (numFitsI x.li y).mono ?_
      rintro e w1 ⟨rfl, hw_⟩
      rw [hw_]
      clear hw_
      cases h1 : numB x.li
      · have hN : Hid (R = true) := by unfold Hid; rw [hR.out]; unfold wiOk; rw [hfr.out, h1]; rfl
        clear h1
        go_wp2
        go_ret
        exact ⟨by rw [hN.out]; rfl, B0⟩
      · replace h1 : Hid _ := h1
        go_wp2_with fail
        go_at_call 72
        refine (numFitsI x.n y).mono ?_
        rintro e w1 ⟨rfl, hw_⟩
        rw [hw_]
        clear hw_
        cases h2 : numB x.n
        · have hN : Hid (R = true) := by unfold Hid; rw [hR.out]; unfold wiOk; rw [hfr.out, h1.out, h2]; rfl
          clear h2
          go_wp2
          go_ret
          exact ⟨by rw [hN.out]; rfl, B0⟩
        · replace h2 : Hid _ := h2
          have hN : Hid (R = !(if x.ak then inNil x.x else inOk x.x)) := by unfold Hid; rw [hR.out]; unfold wiOk; rw [hfr.out, h1.out, h2.out]; rfl
          go_wp2_with fail
          go_at_call 145
          refine (loadFI x y).mono ?_
          rintro e u1 ⟨rfl, k1⟩
          obtain ⟨o, ho⟩ : ∃ o, o = (if x.ak then inNil x.x else inOk x.x) := ⟨_, rfl⟩
          rw [← ho] at hN ⊢
          clear ho
          go_wp2
          go_ret
          exact ⟨by rw [hN.out]; rfl, B0.trans (k1.mono B0.size)⟩
    · have d2 : (x.fr == 1) = false := by simpa using e2
      have b2 : (x.fr != 1) = true := by simpa using e2
      have hN : Hid (R = true) := by unfold Hid; rw [hR.out]; unfold wiOk; rw [decide_eq_false (show ¬ (0 ≤ x.fr ∧ x.fr ≤ 1) by omega)]; rfl
      replace e1 : Hid _ := e1
      replace e2 : Hid _ := e2
      go_wp2
      go_ret
      exact ⟨by rw [hN.out]; rfl, B0⟩

end Go.Proofs.YtnpiljegdiconaaGreat
namespace Go.Proofs.YtnpiljegdiconaaGreat
open Go.ChangeShapes Go.WideShapes Go.ChangeAt Go.RowKit
open Go.ChangeMaps (open_string shut_string)
set_option linter.unusedVariables false
set_option maxRecDepth 100000

theorem allK_no {X : Type} {p : X → Bool} {L : List X} (d : X) {k : Nat} (h : k < L.length) (hq : p (L.getD k d) = false) : L.all p = false := by
  rw [Bool.eq_false_iff]
  intro e
  have := List.all_eq_true.1 e (L.getD k d) (by simp [List.getD, h])
  rw [hq] at this
  cases this
theorem allK_yes {X : Type} {p : X → Bool} {L : List X} (d : X) (h : ∀ j, j < L.length → p (L.getD j d) = true) : L.all p = true := by
  rw [List.all_eq_true]
  intro x hx
  obtain ⟨i, hi, rfl⟩ := List.mem_iff_getElem.1 hx
  have := h i hi
  rwa [show L.getD i d = L[i] by simp [List.getD, hi]] at this
set_option maxHeartbeats 1000000 in
theorem idxMi (ad : Option Addr) (cap : Nat) (L : List MiD) (w : World) (hv : FView mdEnc w ad L) (hl : L.length ≤ 1048576) (hn : ∀ i, i < L.length → FView ikEnc w (L.getD i MiD.nil).ad (L.getD i MiD.nil).m.lg) (hm : ∀ i, i < L.length → (L.getD i MiD.nil).m.lg.length ≤ 1048576) :
    Calls Tryz.prog 143 #[.slice ad L.length cap, .func (Fn.func 84) #[] #[]] w fun e w' => (∃ r : Int, e = .returned (.int .i64 r) ∧ (decide (0 ≤ r) = !L.all (fun d => miOk d.m)) ∧ r ≤ 1048576 ∧ -1 ≤ r) ∧ Below w.heap.size w w' := by
  have hB := hv.lt mdEnc_len (by omega)
  go_enter Tryz.func143, Tryz.ntmps143
  go_wp2
  go_loopw [8] (fun i wr => ∃ k : Nat, i = .int .i64 (k : Int) ∧ k ≤ L.length ∧ Hid (∀ j, j < k → (fun d => miOk d.m) (L.getD j MiD.nil) = true) ∧ Below w.heap.size w wr) (fun i _ => L.length - (intOf i).toNat)
  case atStart => exact ⟨0, rfl, Nat.zero_le _, fun j hj => absurd hj (by omega), Below.refl _ _⟩
  case round =>
    obtain ⟨k, rfl, hk, hF, hb⟩ := hrel
    by_cases hlt : k < L.length
    · obtain ⟨b, off, rfl, _⟩ := hv (by omega)
      obtain ⟨h, hh⟩ : ∃ h, L.getD k MiD.nil = h := ⟨_, rfl⟩
      have hck : MdAtO wr b (off + k * 7) h := by
        rw [← hh]
        exact mdAtO_of ((hv.below hb hB).at_ mdEnc_len MiD.nil hlt)
      have hvw : FView ikEnc wr h.ad h.m.lg := by rw [← hh]; exact (hn k hlt).below hb ((hn k hlt).lt ikEnc_len (by omega))
      have hlw : h.m.lg.length ≤ 1048577 := by rw [← hh]; exact Nat.le_trans (hm k hlt) (by omega)
      clear hn hm
      obtain ⟨c0, c1, c2, c3, c4, c5, c6⟩ := hck
      replace hh : Hid _ := hh
      clear hB hv
      go_wp2_with fail
      go_at_call 84
      refine (noMiI h.m h.ad h.cap wr hvw hlw).mono ?_
      rintro e w3 ⟨rfl, k3⟩
      have b3 := hb.trans (k3.mono hb.size)
      by_cases hq : miOk h.m = true
      · rw [hq]
        go_wp2
        go_roundw
        case rel =>
          refine ⟨k + 1, by go_num, by omega, fun j hj => ?_, b3⟩
          by_cases e : j = k
          · rw [e, hh.out]; exact hq
          · exact hF.out j (by omega)
        case measure => simp [intOf]; omega
      · have hq' : miOk h.m = false := by simpa using hq
        rw [hq']
        go_wp2
        go_ret
        refine ⟨⟨k, rfl, ?_, by omega, by omega⟩, b3⟩
        rw [allK_no MiD.nil hlt (by rw [hh.out]; exact hq')]
        simp
    · obtain rfl : k = L.length := by omega
      go_wp2
      go_ret
      refine ⟨⟨-1, rfl, ?_, by omega, by omega⟩, hb⟩
      rw [allK_yes MiD.nil hF.out]
      rfl
theorem contMi (ad : Option Addr) (cap : Nat) (L : List MiD) (w : World) (hv : FView mdEnc w ad L) (hl : L.length ≤ 1048576) (hn : ∀ i, i < L.length → FView ikEnc w (L.getD i MiD.nil).ad (L.getD i MiD.nil).m.lg) (hm : ∀ i, i < L.length → (L.getD i MiD.nil).m.lg.length ≤ 1048576) :
    Calls Tryz.prog 83 #[.slice ad L.length cap, .func (Fn.func 84) #[] #[]] w fun e w' => e = .returned (.bool (!L.all (fun d => miOk d.m))) ∧ Below w.heap.size w w' := by
  have hI := idxMi ad cap L w hv hl hn hm
  generalize (!L.all (fun d => miOk d.m)) = B at *
  go_enter Tryz.func83, Tryz.ntmps83
  go_wp2_with fail
  go_at_call 143
  refine hI.mono ?_
  rintro e w1 ⟨⟨r, rfl, hr, r1, r2⟩, k1⟩
  go_wp2
  go_ret
  exact ⟨rfl, k1⟩
set_option maxHeartbeats 1000000 in
theorem idxWi (ad : Option Addr) (cap : Nat) (L : List Wi) (w : World) (hv : FView wiEnc w ad L) (hl : L.length ≤ 1048576) :
    Calls Tryz.prog 144 #[.slice ad L.length cap, .func (Fn.func 86) #[] #[]] w fun e w' => (∃ r : Int, e = .returned (.int .i64 r) ∧ (decide (0 ≤ r) = !L.all wiOk) ∧ r ≤ 1048576 ∧ -1 ≤ r) ∧ Below w.heap.size w w' := by
  have hB := hv.lt wiEnc_len (by omega)
  go_enter Tryz.func144, Tryz.ntmps144
  go_wp2
  go_loopw [8] (fun i wr => ∃ k : Nat, i = .int .i64 (k : Int) ∧ k ≤ L.length ∧ Hid (∀ j, j < k → wiOk (L.getD j Wi.nil) = true) ∧ Below w.heap.size w wr) (fun i _ => L.length - (intOf i).toNat)
  case atStart => exact ⟨0, rfl, Nat.zero_le _, fun j hj => absurd hj (by omega), Below.refl _ _⟩
  case round =>
    obtain ⟨k, rfl, hk, hF, hb⟩ := hrel
    by_cases hlt : k < L.length
    · obtain ⟨b, off, rfl, _⟩ := hv (by omega)
      obtain ⟨h, hh⟩ : ∃ h, L.getD k Wi.nil = h := ⟨_, rfl⟩
      have hck : WiAtO wr b (off + k * 12) h := by
        rw [← hh]
        exact wiAtO_of ((hv.below hb hB).at_ wiEnc_len Wi.nil hlt)
      obtain ⟨c0, c1, c2, c3, c4, c5, c6, c7, c8, c9, c10, c11⟩ := hck
      replace hh : Hid _ := hh
      clear hB hv
      go_wp2_with fail
      go_at_call 86
      refine (noWiI h wr).mono ?_
      rintro e w3 ⟨rfl, k3⟩
      have b3 := hb.trans (k3.mono hb.size)
      by_cases hq : wiOk h = true
      · rw [hq]
        go_wp2
        go_roundw
        case rel =>
          refine ⟨k + 1, by go_num, by omega, fun j hj => ?_, b3⟩
          by_cases e : j = k
          · rw [e, hh.out]; exact hq
          · exact hF.out j (by omega)
        case measure => simp [intOf]; omega
      · have hq' : wiOk h = false := by simpa using hq
        rw [hq']
        go_wp2
        go_ret
        refine ⟨⟨k, rfl, ?_, by omega, by omega⟩, b3⟩
        rw [allK_no Wi.nil hlt (by rw [hh.out]; exact hq')]
        simp
    · obtain rfl : k = L.length := by omega
      go_wp2
      go_ret
      refine ⟨⟨-1, rfl, ?_, by omega, by omega⟩, hb⟩
      rw [allK_yes Wi.nil hF.out]
      rfl
theorem contWi (ad : Option Addr) (cap : Nat) (L : List Wi) (w : World) (hv : FView wiEnc w ad L) (hl : L.length ≤ 1048576) :
    Calls Tryz.prog 85 #[.slice ad L.length cap, .func (Fn.func 86) #[] #[]] w fun e w' => e = .returned (.bool (!L.all wiOk)) ∧ Below w.heap.size w w' := by
  have hI := idxWi ad cap L w hv hl
  generalize (!L.all wiOk) = B at *
  go_enter Tryz.func85, Tryz.ntmps85
  go_wp2_with fail
  go_at_call 144
  refine hI.mono ?_
  rintro e w1 ⟨⟨r, rfl, hr, r1, r2⟩, k1⟩
  go_wp2
  go_ret
  exact ⟨rfl, k1⟩
set_option maxHeartbeats 1000000 in
theorem idxIn (ad : Option Addr) (cap : Nat) (L : List Ik) (w : World) (hv : FView ikEnc w ad L) (hl : L.length ≤ 1048576) :
    Calls Tryz.prog 146 #[.slice ad L.length cap, .func (Fn.func 88) #[] #[]] w fun e w' => (∃ r : Int, e = .returned (.int .i64 r) ∧ (decide (0 ≤ r) = !L.all inOk) ∧ r ≤ 1048576 ∧ -1 ≤ r) ∧ Below w.heap.size w w' := by
  have hB := hv.lt ikEnc_len (by omega)
  go_enter Tryz.func146, Tryz.ntmps146
  go_wp2
  go_loopw [8] (fun i wr => ∃ k : Nat, i = .int .i64 (k : Int) ∧ k ≤ L.length ∧ Hid (∀ j, j < k → inOk (L.getD j Ik.nil) = true) ∧ Below w.heap.size w wr) (fun i _ => L.length - (intOf i).toNat)
  case atStart => exact ⟨0, rfl, Nat.zero_le _, fun j hj => absurd hj (by omega), Below.refl _ _⟩
  case round =>
    obtain ⟨k, rfl, hk, hF, hb⟩ := hrel
    by_cases hlt : k < L.length
    · obtain ⟨b, off, rfl, _⟩ := hv (by omega)
      obtain ⟨h, hh⟩ : ∃ h, L.getD k Ik.nil = h := ⟨_, rfl⟩
      have hck : IkAtO wr b (off + k * 8) h := by
        rw [← hh]
        exact ikAtO_of ((hv.below hb hB).at_ ikEnc_len Ik.nil hlt)
      obtain ⟨c0, c1, c2, c3, c4, c5, c6, c7⟩ := hck
      replace hh : Hid _ := hh
      clear hB hv
      go_wp2_with fail
      go_at_call 88
      refine (noInI h wr).mono ?_
      rintro e w3 ⟨rfl, k3⟩
      have b3 := hb.trans (k3.mono hb.size)
      by_cases hq : inOk h = true
      · rw [hq]
        go_wp2
        go_roundw
        case rel =>
          refine ⟨k + 1, by go_num, by omega, fun j hj => ?_, b3⟩
          by_cases e : j = k
          · rw [e, hh.out]; exact hq
          · exact hF.out j (by omega)
        case measure => simp [intOf]; omega
      · have hq' : inOk h = false := by simpa using hq
        rw [hq']
        go_wp2
        go_ret
        refine ⟨⟨k, rfl, ?_, by omega, by omega⟩, b3⟩
        rw [allK_no Ik.nil hlt (by rw [hh.out]; exact hq')]
        simp
    · obtain rfl : k = L.length := by omega
      go_wp2
      go_ret
      refine ⟨⟨-1, rfl, ?_, by omega, by omega⟩, hb⟩
      rw [allK_yes Ik.nil hF.out]
      rfl
theorem contIn (ad : Option Addr) (cap : Nat) (L : List Ik) (w : World) (hv : FView ikEnc w ad L) (hl : L.length ≤ 1048576) :
    Calls Tryz.prog 87 #[.slice ad L.length cap, .func (Fn.func 88) #[] #[]] w fun e w' => e = .returned (.bool (!L.all inOk)) ∧ Below w.heap.size w w' := by
  have hI := idxIn ad cap L w hv hl
  generalize (!L.all inOk) = B at *
  go_enter Tryz.func87, Tryz.ntmps87
  go_wp2_with fail
  go_at_call 146
  refine hI.mono ?_
  rintro e w1 ⟨⟨r, rfl, hr, r1, r2⟩, k1⟩
  go_wp2
  go_ret
  exact ⟨rfl, k1⟩

end Go.Proofs.YtnpiljegdiconaaGreat
namespace Go.Proofs.YtnpiljegdiconaaGreat
open Go.ChangeShapes Go.WideShapes Go.ChangeAt Go.RowKit
open Go.ChangeMaps (open_string shut_string)
set_option linter.unusedVariables false
set_option maxRecDepth 100000

set_option maxHeartbeats 2000000 in
theorem regOkI (r : Rg) (w : World) : Calls Tryz.prog 20 #[.agg #[.int .i64 r.ep, .int .i64 r.ow, .int .i64 r.pa]] w fun e w' => e = .returned (.bool (rgOk r)) ∧ Below w.heap.size w w' := by
  obtain ⟨R, hR⟩ : ∃ R, R = rgOk r := ⟨_, rfl⟩
  rw [← hR]
  replace hR : Hid _ := hR
  obtain ⟨y, hy⟩ : ∃ y, y = w.alloc (Obj.cells #[.int .i64 r.ep, .int .i64 r.ow, .int .i64 r.pa] 25) := ⟨_, rfl⟩
  have B0 : Below w.heap.size w y := by rw [hy]; exact below_new _
  have A : RgAt y w.heap.size r := by rw [hy]; exact RgAt.new w _ r
  go_enter Tryz.func20, Tryz.ntmps20
  go_upto_region 1 with fail
  rw [← hy]
  clear hy
  obtain ⟨a0, a1, a2⟩ := A
  by_cases e1 : 1 ≤ r.ep
  · have d1 : decide (1 ≤ r.ep) = true := decide_eq_true e1
    by_cases e2 : r.ep ≤ 100000
    · have d2 : decide (r.ep ≤ 100000) = true := decide_eq_true e2
      by_cases e3 : r.ow = 0
      · have d3 : decide (r.ow = 0) = true := decide_eq_true e3
        have b3 : (r.ow == 0) = true := by simpa using e3
        have hN : Hid (R = numB r.pa) := by unfold Hid; rw [hR.out]; unfold rgOk; rw [decide_eq_true (⟨e1, e2⟩ : 1 ≤ r.ep ∧ r.ep ≤ 100000), decide_eq_true (show 0 ≤ r.ow ∧ r.ow ≤ 1 by omega)]; rfl
        replace e1 : Hid _ := e1
        replace e2 : Hid _ := e2
        replace e3 : Hid _ := e3
        go_wp2_with fail
        go_at_call 72
        refine (numFitsI r.pa y).mono ?_
        rintro e w' ⟨rfl, rfl⟩
        go_wp2
        go_ret
        exact ⟨by rw [hN.out]; rfl, B0⟩
      · have d3 : decide (r.ow = 0) = false := decide_eq_false e3
        have b3 : (r.ow == 0) = false := by simpa using e3
        by_cases e4 : r.ow = 1
        · have d4 : decide (r.ow = 1) = true := decide_eq_true e4
          have b4 : (r.ow == 1) = true := by simpa using e4
          have hN : Hid (R = numB r.pa) := by unfold Hid; rw [hR.out]; unfold rgOk; rw [decide_eq_true (⟨e1, e2⟩ : 1 ≤ r.ep ∧ r.ep ≤ 100000), decide_eq_true (show 0 ≤ r.ow ∧ r.ow ≤ 1 by omega)]; rfl
          replace e1 : Hid _ := e1
          replace e2 : Hid _ := e2
          replace e3 : Hid _ := e3
          replace e4 : Hid _ := e4
          go_wp2_with fail
          go_at_call 72
          refine (numFitsI r.pa y).mono ?_
          rintro e w' ⟨rfl, rfl⟩
          go_wp2
          go_ret
          exact ⟨by rw [hN.out]; rfl, B0⟩
        · have d4 : decide (r.ow = 1) = false := decide_eq_false e4
          have b4 : (r.ow == 1) = false := by simpa using e4
          have hN : Hid (R = false) := by unfold Hid; rw [hR.out]; unfold rgOk; rw [decide_eq_true (⟨e1, e2⟩ : 1 ≤ r.ep ∧ r.ep ≤ 100000), decide_eq_false (show ¬ (0 ≤ r.ow ∧ r.ow ≤ 1) by omega)]; rfl
          replace e1 : Hid _ := e1
          replace e2 : Hid _ := e2
          replace e3 : Hid _ := e3
          replace e4 : Hid _ := e4
          go_wp2
          go_ret
          exact ⟨by rw [hN.out]; rfl, B0⟩
    · have d2 : decide (r.ep ≤ 100000) = false := decide_eq_false e2
      have hN : Hid (R = false) := by unfold Hid; rw [hR.out]; unfold rgOk; rw [decide_eq_false (show ¬ (1 ≤ r.ep ∧ r.ep ≤ 100000) by omega)]; rfl
      replace e1 : Hid _ := e1
      replace e2 : Hid _ := e2
      go_wp2
      go_ret
      exact ⟨by rw [hN.out]; rfl, B0⟩
  · have d1 : decide (1 ≤ r.ep) = false := decide_eq_false e1
    have hN : Hid (R = false) := by unfold Hid; rw [hR.out]; unfold rgOk; rw [decide_eq_false (show ¬ (1 ≤ r.ep ∧ r.ep ≤ 100000) by omega)]; rfl
    replace e1 : Hid _ := e1
    go_wp2
    go_ret
    exact ⟨by rw [hN.out]; rfl, B0⟩

end Go.Proofs.YtnpiljegdiconaaGreat
namespace Go.Proofs.YtnpiljegdiconaaGreat
open Go.ChangeShapes Go.WideShapes Go.ChangeAt Go.RowKit
open Go.ChangeMaps (open_string shut_string)
set_option linter.unusedVariables false
set_option maxRecDepth 100000

theorem bxOk_seq (x : BxD) : bxOk x.p = (nOk x.id x.po && (rgOk x.rg && (decide (x.two.length = 2) && (x.two.all (fun d => miOk d.m) && (decide (x.net.length ≤ 20) && (x.net.all wiOk && (decide ((x.ga.length : Int) = x.po) && (decide (x.ln.length ≤ 60) && (x.ln.all inOk && (decide (x.sd.length ≤ 40))))))))))) := by
  rw [Bool.eq_iff_iff, bxOk_is]
  simp only [Bool.and_eq_true, decide_eq_true_eq]
  have hl : x.p.two.length = x.two.length := by unfold BxD.p; simp
  have h2 : x.two.length = 2 → (x.two.all (fun d => miOk d.m) = true ↔ miOk (mOf x.p 0) = true ∧ miOk (mOf x.p 1) = true) := by
    intro h
    obtain ⟨a, b, e⟩ : ∃ a b, x.two = [a, b] := by
      match hx : x.two, h with
      | [a, b], _ => exact ⟨a, b, rfl⟩
    rw [mOf_p, mOf_p, e]
    simp
  have hi : insB x.p.ln = true ↔ x.ln.length ≤ 60 ∧ x.ln.all inOk = true := by
    show insB x.ln = true ↔ _
    unfold insB
    simp only [Bool.and_eq_true, decide_eq_true_eq]
    exact And.comm
  rw [hl, hi]
  constructor
  · rintro ⟨a1, a2, a3, a4, a5, a6, a7, a8, ⟨a9, b9⟩, a10⟩
    exact ⟨a1, a2, a3, (h2 a3).2 ⟨a4, a5⟩, a7, a6, a8, a9, b9, a10⟩
  · rintro ⟨a1, a2, a3, a4, a7, a6, a8, a9, b9, a10⟩
    exact ⟨a1, a2, a3, ((h2 a3).1 a4).1, ((h2 a3).1 a4).2, a6, a7, a8, ⟨a9, b9⟩, a10⟩
set_option maxHeartbeats 8000000 in
theorem boxOkI (x : BxD) (w : World) (hV : BxV w x) :
    Calls Tryz.prog 32 #[.agg #[.int .i64 x.id, .int .i64 x.po, .int .i64 x.rg.ep, .int .i64 x.rg.ow, .int .i64 x.rg.pa, .slice x.aT x.two.length x.cT, .slice x.aN x.net.length x.cN, .slice x.aG x.ga.length x.cG, .slice x.aL x.ln.length x.cL, .slice x.aS x.sd.length x.cS]] w fun e w' => e = .returned (.bool (bxOk x.p)) ∧ Below w.heap.size w w' := by
  obtain ⟨R, hR⟩ : ∃ R, R = bxOk x.p := ⟨_, rfl⟩
  rw [← hR]
  replace hR : Hid _ := hR
  obtain ⟨y, hy⟩ : ∃ y, y = w.alloc (Obj.cells #[.int .i64 x.id, .int .i64 x.po, .int .i64 x.rg.ep, .int .i64 x.rg.ow, .int .i64 x.rg.pa, .slice x.aT x.two.length x.cT, .slice x.aN x.net.length x.cN, .slice x.aG x.ga.length x.cG, .slice x.aL x.ln.length x.cL, .slice x.aS x.sd.length x.cS] 48) := ⟨_, rfl⟩
  have B0 : Below w.heap.size w y := by rw [hy]; exact below_new _
  have A : BxAt y w.heap.size x := by rw [hy]; exact BxAt.new w _ x
  have V := hV.later B0
  clear hV
  go_enter Tryz.func32, Tryz.ntmps32
  have cc := A
  obtain ⟨a0, a1, a2, a3, a4, a5, a6, a7, a8, a9⟩ := cc
  go_wp2_with fail
  go_at_call 29
  rw [← hy]
  clear a0 a1 a2 a3 a4 a5 a6 a7 a8 a9 hy
  refine (newBI x.id x.po y).mono ?_
  rintro e u0 ⟨ad', cap', rfl, O', k0⟩
  have A := A.below k0 A.lt
  have V := V.later k0
  have B1 := B0.trans (k0.mono B0.size)
  clear k0 O'
  obtain ⟨u1, hu1⟩ : ∃ y_, y_ = u0.alloc (Obj.cells #[.int .i64 (newI x.id x.po), .slice ad' (newL x.id x.po).length cap'] 56) := ⟨_, rfl⟩
  have kk : Below u0.heap.size u0 u1 := by rw [hu1]; exact below_new _
  have A := A.below kk A.lt
  have V := V.later kk
  have B2 := B1.trans (kk.mono B1.size)
  clear kk B1
  go_upto_region 2 with fail
  rw [← hu1]
  clear hu1
  cases h1 : nOk x.id x.po
  · have hN : Hid (R = false) := by unfold Hid; rw [hR.out, bxOk_seq, h1]; rfl
    replace h1 : Hid _ := h1
    have cc := A
    obtain ⟨a0, a1, a2, a3, a4, a5, a6, a7, a8, a9⟩ := cc
    go_wp2
    go_ret
    exact ⟨by rw [hN.out]; rfl, B2⟩
  · replace h1 : Hid _ := h1
    have cc := A
    obtain ⟨a0, a1, a2, a3, a4, a5, a6, a7, a8, a9⟩ := cc
    go_wp2_with fail
    go_at_call 20
    clear a0 a1 a2 a3 a4 a5 a6 a7 a8 a9
    refine (regOkI x.rg u1).mono ?_
    rintro e u2 ⟨rfl, kk⟩
    have A := A.below kk A.lt
    have V := V.later kk
    have B2' := B2.trans (kk.mono B2.size)
    clear kk
    cases h2 : rgOk x.rg
    · have hN : Hid (R = false) := by unfold Hid; rw [hR.out, bxOk_seq, h1.out, h2]; rfl
      replace h2 : Hid _ := h2
      have cc := A
      obtain ⟨a0, a1, a2, a3, a4, a5, a6, a7, a8, a9⟩ := cc
      go_wp2
      go_ret
      exact ⟨by rw [hN.out]; rfl, B2'⟩
    · replace h2 : Hid _ := h2
      by_cases e3 : x.two.length = 2
      · have d3 : ((x.two.length : Int) == 2) = true := by rw [beq_iff_eq]; omega
        have h3 : Hid (decide (x.two.length = 2) = true) := decide_eq_true e3
        replace e3 : Hid _ := e3
        have cc := A
        obtain ⟨a0, a1, a2, a3, a4, a5, a6, a7, a8, a9⟩ := cc
        go_wp2_with fail
        go_at_call 83
        clear a0 a1 a2 a3 a4 a5 a6 a7 a8 a9
        refine (contMi x.aT x.cT x.two u2 V.t V.bt V.l V.bl).mono ?_
        rintro e u4 ⟨rfl, kk⟩
        have A := A.below kk A.lt
        have V := V.later kk
        have B2'' := B2'.trans (kk.mono B2'.size)
        clear kk
        cases h4 : x.two.all (fun d => miOk d.m)
        · have hN : Hid (R = false) := by unfold Hid; rw [hR.out, bxOk_seq, h1.out, h2.out, h3.out, h4]; rfl
          replace h4 : Hid _ := h4
          have cc := A
          obtain ⟨a0, a1, a2, a3, a4, a5, a6, a7, a8, a9⟩ := cc
          go_wp2
          go_ret
          exact ⟨by rw [hN.out]; rfl, B2''⟩
        · replace h4 : Hid _ := h4
          by_cases e5 : x.net.length ≤ 20
          · have d5 : decide ((x.net.length : Int) ≤ 20) = true := decide_eq_true (by omega)
            have h5 : Hid (decide (x.net.length ≤ 20) = true) := decide_eq_true e5
            replace e5 : Hid _ := e5
            have cc := A
            obtain ⟨a0, a1, a2, a3, a4, a5, a6, a7, a8, a9⟩ := cc
            go_wp2_with fail
            go_at_call 85
            clear a0 a1 a2 a3 a4 a5 a6 a7 a8 a9
            refine (contWi x.aN x.cN x.net u4 V.n V.bn).mono ?_
            rintro e u6 ⟨rfl, kk⟩
            have A := A.below kk A.lt
            have V := V.later kk
            have B2''' := B2''.trans (kk.mono B2''.size)
            clear kk
            cases h6 : x.net.all wiOk
            · have hN : Hid (R = false) := by unfold Hid; rw [hR.out, bxOk_seq, h1.out, h2.out, h3.out, h4.out, h5.out, h6]; rfl
              replace h6 : Hid _ := h6
              have cc := A
              obtain ⟨a0, a1, a2, a3, a4, a5, a6, a7, a8, a9⟩ := cc
              go_wp2
              go_ret
              exact ⟨by rw [hN.out]; rfl, B2'''⟩
            · replace h6 : Hid _ := h6
              by_cases e7 : (x.ga.length : Int) = x.po
              · have d7 : ((x.ga.length : Int) == x.po) = true := by simpa using e7
                have h7 : Hid (decide ((x.ga.length : Int) = x.po) = true) := decide_eq_true e7
                replace e7 : Hid _ := e7
                by_cases e8 : x.ln.length ≤ 60
                · have d8 : decide ((x.ln.length : Int) ≤ 60) = true := decide_eq_true (by omega)
                  have h8 : Hid (decide (x.ln.length ≤ 60) = true) := decide_eq_true e8
                  replace e8 : Hid _ := e8
                  have cc := A
                  obtain ⟨a0, a1, a2, a3, a4, a5, a6, a7, a8, a9⟩ := cc
                  go_wp2_with fail
                  go_at_call 87
                  clear a0 a1 a2 a3 a4 a5 a6 a7 a8 a9
                  refine (contIn x.aL x.cL x.ln u6 V.i V.bi).mono ?_
                  rintro e u9 ⟨rfl, kk⟩
                  have A := A.below kk A.lt
                  have V := V.later kk
                  have B2'''' := B2'''.trans (kk.mono B2'''.size)
                  clear kk
                  cases h9 : x.ln.all inOk
                  · have hN : Hid (R = false) := by unfold Hid; rw [hR.out, bxOk_seq, h1.out, h2.out, h3.out, h4.out, h5.out, h6.out, h7.out, h8.out, h9]; rfl
                    replace h9 : Hid _ := h9
                    have cc := A
                    obtain ⟨a0, a1, a2, a3, a4, a5, a6, a7, a8, a9⟩ := cc
                    go_wp2
                    go_ret
                    exact ⟨by rw [hN.out]; rfl, B2''''⟩
                  · replace h9 : Hid _ := h9
                    by_cases e10 : x.sd.length ≤ 40
                    · have d10 : decide ((x.sd.length : Int) ≤ 40) = true := decide_eq_true (by omega)
                      have h10 : Hid (decide (x.sd.length ≤ 40) = true) := decide_eq_true e10
                      replace e10 : Hid _ := e10
                      have hN : Hid (R = true) := by unfold Hid; rw [hR.out, bxOk_seq, h1.out, h2.out, h3.out, h4.out, h5.out, h6.out, h7.out, h8.out, h9.out, h10.out]; rfl
                      have cc := A
                      obtain ⟨a0, a1, a2, a3, a4, a5, a6, a7, a8, a9⟩ := cc
                      go_wp2
                      go_ret
                      exact ⟨by rw [hN.out]; rfl, B2''''⟩
                    · have d10 : decide ((x.sd.length : Int) ≤ 40) = false := decide_eq_false (by omega)
                      have h10 : decide (x.sd.length ≤ 40) = false := decide_eq_false e10
                      replace e10 : Hid _ := e10
                      have hN : Hid (R = false) := by unfold Hid; rw [hR.out, bxOk_seq, h1.out, h2.out, h3.out, h4.out, h5.out, h6.out, h7.out, h8.out, h9.out, h10]; rfl
                      replace h10 : Hid _ := h10
                      have cc := A
                      obtain ⟨a0, a1, a2, a3, a4, a5, a6, a7, a8, a9⟩ := cc
                      go_wp2
                      go_ret
                      exact ⟨by rw [hN.out]; rfl, B2''''⟩
                · have d8 : decide ((x.ln.length : Int) ≤ 60) = false := decide_eq_false (by omega)
                  have h8 : decide (x.ln.length ≤ 60) = false := decide_eq_false e8
                  replace e8 : Hid _ := e8
                  have hN : Hid (R = false) := by unfold Hid; rw [hR.out, bxOk_seq, h1.out, h2.out, h3.out, h4.out, h5.out, h6.out, h7.out, h8]; rfl
                  replace h8 : Hid _ := h8
                  have cc := A
                  obtain ⟨a0, a1, a2, a3, a4, a5, a6, a7, a8, a9⟩ := cc
                  go_wp2
                  go_ret
                  exact ⟨by rw [hN.out]; rfl, B2'''⟩
              · have d7 : ((x.ga.length : Int) == x.po) = false := by simpa using e7
                have h7 : decide ((x.ga.length : Int) = x.po) = false := decide_eq_false e7
                replace e7 : Hid _ := e7
                have hN : Hid (R = false) := by unfold Hid; rw [hR.out, bxOk_seq, h1.out, h2.out, h3.out, h4.out, h5.out, h6.out, h7]; rfl
                replace h7 : Hid _ := h7
                have cc := A
                obtain ⟨a0, a1, a2, a3, a4, a5, a6, a7, a8, a9⟩ := cc
                go_wp2
                go_ret
                exact ⟨by rw [hN.out]; rfl, B2'''⟩
          · have d5 : decide ((x.net.length : Int) ≤ 20) = false := decide_eq_false (by omega)
            have h5 : decide (x.net.length ≤ 20) = false := decide_eq_false e5
            replace e5 : Hid _ := e5
            have hN : Hid (R = false) := by unfold Hid; rw [hR.out, bxOk_seq, h1.out, h2.out, h3.out, h4.out, h5]; rfl
            replace h5 : Hid _ := h5
            have cc := A
            obtain ⟨a0, a1, a2, a3, a4, a5, a6, a7, a8, a9⟩ := cc
            go_wp2
            go_ret
            exact ⟨by rw [hN.out]; rfl, B2''⟩
      · have d3 : ((x.two.length : Int) == 2) = false := by rw [beq_eq_false_iff_ne]; omega
        have h3 : decide (x.two.length = 2) = false := decide_eq_false e3
        replace e3 : Hid _ := e3
        have hN : Hid (R = false) := by unfold Hid; rw [hR.out, bxOk_seq, h1.out, h2.out, h3]; rfl
        replace h3 : Hid _ := h3
        have cc := A
        obtain ⟨a0, a1, a2, a3, a4, a5, a6, a7, a8, a9⟩ := cc
        go_wp2
        go_ret
        exact ⟨by rw [hN.out]; rfl, B2'⟩

end Go.Proofs.YtnpiljegdiconaaGreat
namespace Go.Proofs.YtnpiljegdiconaaGreat
open Go.ChangeShapes Go.WideShapes Go.ChangeAt Go.RowKit
open Go.ChangeMaps (open_string shut_string)
set_option linter.unusedVariables false
set_option maxRecDepth 100000

/-- A region by its states: whatever of those that may come up comes up. -/
theorem region_by {P : Program} {md : Region.Mode} {ops : Array Oper} {Q : Exit → Act → World → Prop} {S : World → Prop} {ds : List Deferred} {k : Nat} (I : Nat → Array Bool → List Value → World → Prop)
    (step : ∀ n listed l W, I (n + 1) listed l W → ∃ rs, Region.ready md ops listed = rs ∧ rs ≠ [] ∧ ∀ i, i ∈ rs → ∀ K : Act → World → Prop, (∀ l' W', S W' → I n (listed.setIfInBounds i true) l' W' → K ⟨l'.toArray, ds⟩ W') → wpOp P ops Q i K ⟨l.toArray, ds⟩ W)
    (fin : ∀ listed l W, I 0 listed l W → wpAnyH P md ops Q S k listed ⟨l.toArray, ds⟩ W) :
    ∀ n listed l W, I n listed l W → wpAnyH P md ops Q S (n + k) listed ⟨l.toArray, ds⟩ W
  | 0, listed, l, W, h => by rw [Nat.zero_add]; exact fin listed l W h
  | n + 1, listed, l, W, h => by
    obtain ⟨rs, hr, hne, hs⟩ := step n listed l W h
    rw [show n + 1 + k = (n + k) + 1 by omega]
    exact wpAnyH_all hr hne (fun i hi => hs i hi _ (fun l' W' hS hI => ⟨hS, region_by I step fin n _ l' W' hI⟩))
/-- Rows of different things lie in different blocks. -/
theorem FOwn.apart {X Y : Type} {e1 : X → List Value} {e2 : Y → List Value} {n1 n2 : Nat} {T1 T2 : TypeId} {b1 b2 : Nat} {w : World} {v1 v2 : Value} {L1 : List X} {L2 : List Y} (h1 : FOwn e1 n1 T1 b1 w v1 L1) (h2 : FOwn e2 n2 T2 b2 w v2 L2) (hT : T1 ≠ T2) {g : Nat} (e : v1.ownBlock = some g) : v2.ownBlock ≠ some g := by
  intro e2'
  rcases h1.2 with ⟨q, _⟩ | ⟨g1, c1, u1, q1, _, o1, _⟩
  · rw [q] at e; cases e
  · rcases h2.2 with ⟨q, _⟩ | ⟨g2, c2, u2, q2, _, o2, _⟩
    · rw [q] at e2'; cases e2'
    · rw [q1] at e
      rw [q2] at e2'
      cases e
      cases e2'
      rw [o1] at o2
      simp only [Option.some.injEq, Obj.cells.injEq] at o2
      exact hT o2.2.1

end Go.Proofs.YtnpiljegdiconaaGreat
namespace Go.Proofs.YtnpiljegdiconaaGreat
open Go.ChangeShapes Go.WideShapes Go.ChangeAt Go.RowKit
open Go.ChangeMaps (open_string shut_string)
set_option linter.unusedVariables false
set_option maxRecDepth 100000

def fnEnc (f : Nat) : List Value := [.func (.func f) #[] #[]]
theorem fnEnc_len (f : Nat) : (fnEnc f).length = 1 := rfl
/-- What stands ahead of the judge's answer: failed, and what it hands back. -/
theorem judge1 (p5 p4 : Nat) (b c : Bool) (u : FrameMode) (w : World) (h5 : w.cell? ⟨p5, 0, none⟩ = some (.bool b)) (h4 : w.cell? ⟨p4, 0, none⟩ = some (.bool c)) (hf : w.frozen? ⟨p4, 0, none⟩ = false) :
    CallsD Tryz.prog 153 #[.pointer (some ⟨p5, 0, none⟩), .pointer (some ⟨p4, 0, none⟩)] u w fun e u' w' => u' = u ∧ (e = .returned (.tuple #[]) ∧ w' = w.setCell ⟨p4, 0, none⟩ (.bool (!b))) := by
  go_enter_d Tryz.func153, Tryz.ntmps153
  go_wp2
  go_end0
  first | exact ⟨rfl, rfl⟩ | simp
/-- A flag that is kept in memory. -/
structure FlB (w : World) (q : Nat) (b : Bool) : Prop where
  c : w.cell? ⟨q, 0, none⟩ = some (.bool b)
  f : w.frozen? ⟨q, 0, none⟩ = false
theorem FlB.keep {w w' : World} {q : Nat} {b : Bool} (h : FlB w q b) (k : w'.heap[q]? = w.heap[q]?) : FlB w' q b := ⟨(World.cell?_of_block (a := ⟨q, 0, none⟩) k).trans h.c, (World.frozen?_of_block (a := ⟨q, 0, none⟩) k).trans h.f⟩
theorem FlB.lt {w : World} {q : Nat} {b : Bool} (h : FlB w q b) : q < w.heap.size := World.block_lt_of_cell? w _ h.c
theorem FlB.below {w w' : World} {q n : Nat} {b : Bool} (h : FlB w q b) (k : Below n w w') (hq : q < n) : FlB w' q b := h.keep (k.block q hq)
theorem FlB.put {w : World} {q : Nat} {b : Bool} (h : FlB w q b) (c : Bool) : FlB (w.setCell ⟨q, 0, none⟩ (.bool c)) q c := ⟨pset_same h.c, by rw [World.frozen?_setCell]; exact h.f⟩
theorem FlB.new (w : World) (b : Bool) : FlB (w.alloc (Obj.cells #[.bool b] 4)) w.heap.size b := ⟨by simp [go_sem], by simp [go_sem]⟩
set_option linter.unusedSimpArgs false in
set_option maxHeartbeats 8000000 in
theorem judgeI (x : BxD) (Fs : List Nat) (Q : Nat → Prop) (aF : Option Addr) (cF : Nat) (w : World) (hJ : BxJ w x) (hF : FView fnEnc w aF Fs) (hl : Fs.length ≤ 8)
    (hE : ∀ k, k < Fs.length → Enters Tryz.prog (Fs.getD k 0))
    (hc : bxOk x.p = true → ∀ k, k < Fs.length → ∀ w', BxJ w' x → Calls Tryz.prog (Fs.getD k 0) #[.agg #[.int .i64 x.id, .int .i64 x.po, .int .i64 x.rg.ep, .int .i64 x.rg.ow, .int .i64 x.rg.pa, .slice x.aT x.two.length x.cT, .slice x.aN x.net.length x.cN, .slice x.aG x.ga.length x.cG, .slice x.aL x.ln.length x.cL, .slice x.aS x.sd.length x.cS]] w' fun e w2 => YN e (Q k) ∧ Below w'.heap.size w' w2) :
    Calls Tryz.prog 97 #[.agg #[.int .i64 x.id, .int .i64 x.po, .int .i64 x.rg.ep, .int .i64 x.rg.ow, .int .i64 x.rg.pa, .slice x.aT x.two.length x.cT, .slice x.aN x.net.length x.cN, .slice x.aG x.ga.length x.cG, .slice x.aL x.ln.length x.cL, .slice x.aS x.sd.length x.cS], .slice aF Fs.length cF] w fun e w' => YN e (bxOk x.p = true ∧ ∀ k, k < Fs.length → Q k) ∧ Below w.heap.size w w' := by
  have hmf : ∀ (fn : Fn) (first cap : Array Value) (w : World), (Instr.makeFunc fn first cap).run Tryz.prog w = .ok (.func fn first cap) w := fun _ _ _ _ => rfl
  obtain ⟨R, hR⟩ : ∃ R : Prop, R = (bxOk x.p = true ∧ ∀ k, k < Fs.length → Q k) := ⟨_, rfl⟩
  rw [← hR]
  replace hR : Hid _ := hR
  obtain ⟨y, hy⟩ : ∃ y, y = ((w.alloc (Obj.cells #[.int .i64 x.id, .int .i64 x.po, .int .i64 x.rg.ep, .int .i64 x.rg.ow, .int .i64 x.rg.pa, .slice x.aT x.two.length x.cT, .slice x.aN x.net.length x.cN, .slice x.aG x.ga.length x.cG, .slice x.aL x.ln.length x.cL, .slice x.aS x.sd.length x.cS] 48)).alloc (Obj.cells #[.bool false] 4)).alloc (Obj.cells #[.bool false] 4) := ⟨_, rfl⟩
  obtain ⟨w1, h1⟩ : ∃ v, v = w.alloc (Obj.cells #[.int .i64 x.id, .int .i64 x.po, .int .i64 x.rg.ep, .int .i64 x.rg.ow, .int .i64 x.rg.pa, .slice x.aT x.two.length x.cT, .slice x.aN x.net.length x.cN, .slice x.aG x.ga.length x.cG, .slice x.aL x.ln.length x.cL, .slice x.aS x.sd.length x.cS] 48) := ⟨_, rfl⟩
  obtain ⟨w2, h2⟩ : ∃ v, v = w1.alloc (Obj.cells #[.bool false] 4) := ⟨_, rfl⟩
  have A : BxAt w1 w.heap.size x := by rw [h1]; exact BxAt.new w _ x
  have C1 : FlB w2 w1.heap.size false := by rw [h2]; exact FlB.new w1 false
  have C2 : FlB y w2.heap.size false := by rw [hy, ← h1, ← h2]; exact FlB.new w2 false
  have k1 : Below w.heap.size w w1 := by rw [h1]; exact below_new _
  have k2 : Below w1.heap.size w1 w2 := by rw [h2]; exact below_new _
  have k3 : Below w2.heap.size w2 y := by rw [hy, ← h1, ← h2]; exact below_new _
  have s1 : w1.heap.size = w.heap.size + 1 := by rw [h1]; simp
  have s2 : w2.heap.size = w.heap.size + 1 + 1 := by rw [h2]; simp [s1]
  have A := (A.below k2 A.lt).below k3 (by have := A.lt; have := k2.size; omega)
  have C1 := C1.below k3 C1.lt
  have B : Below w.heap.size w y := (k1.trans (k2.mono k1.size)).trans (k3.mono (by omega))
  rw [s1] at C1
  rw [s2] at C2
  have A := A
  replace k1 : True := trivial
  clear k1 k2 k3 s1 s2
  have J := hJ.later B
  have F := hF.below B (hF.lt fnEnc_len (by omega))
  clear hJ hF
  go_enter_defers Tryz.func97, Tryz.ntmps97
  go_wp2_with fail
  go_at_call 32
  rw [← hy]
  clear hy
  obtain ⟨qh, hqh⟩ : ∃ q, q = w.heap.size + 1 := ⟨_, rfl⟩
  obtain ⟨qf, hqf⟩ : ∃ q, q = w.heap.size + 1 + 1 := ⟨_, rfl⟩
  rw [← hqf] at C2 ⊢
  rw [← hqh] at C1 ⊢
  replace hqh : w.heap.size ≤ qh ∧ qh < qf ∧ w.heap.size < qh := by omega
  clear hqf
  refine (boxOkI x y J.v).mono ?_
  rintro e u1 ⟨rfl, kq⟩
  have J := J.later kq
  have F := F.below kq (F.lt fnEnc_len (by omega))
  have B1 := B.trans (kq.mono B.size)
  have A := A.below kq A.lt
  have C1 := C1.below kq C1.lt
  have C2 := C2.below kq C2.lt
  clear kq B
  have B := B1
  clear B1
  obtain ⟨ob, hob⟩ : ∃ b, bxOk x.p = b := ⟨_, rfl⟩
  rw [hob]
  cases ob
  · replace hob : Hid _ := hob
    obtain ⟨c2, f2⟩ := C2
    go_wp2
    have C2 := (FlB.mk c2 f2).put true
    have C1 := C1.keep (w' := u1.setCell ⟨qf, 0, none⟩ (.bool true)) (Below.heap_setCell _ _ _ _ (by show qh ≠ qf; omega))
    have B := B.setCell (p := ⟨qf, 0, none⟩) (by show w.heap.size ≤ qf; omega) (.bool true)
    refine leaves_cons (f := 153) (args := #[.pointer (some ⟨qf, 0, none⟩), .pointer (some ⟨qh, 0, none⟩)]) (by simp) (by simp [go_sem]) ?_
    refine (judge1 qf qh true false .returning _ C2.c C1.c C1.f).mono ?_
    rintro e u' w'' ⟨rfl, rfl, rfl⟩
    have C9 := (C1.put false).c
    have B9 : Below w.heap.size w ((u1.setCell ⟨qf, 0, none⟩ (.bool true)).setCell ⟨qh, 0, none⟩ (.bool (!true))) := B.setCell (p := ⟨qh, 0, none⟩) (by show w.heap.size ≤ qh; omega) _
    simp only [Bool.not_true, Bool.not_false] at B9
    simp [Leaves, settle, results, Tryz.results97, go_sem, C9]
    exact ⟨YN.no (by rw [hR.out, hob.out]; rintro ⟨h, _⟩; cases h), B9⟩
  have hc := hc hob
  replace hob : Hid _ := hob
  go_upto_region 6 with fail
  go_loopw [14] (fun i wr => ∃ k : Nat, k ≤ Fs.length ∧ i = .int .i64 (k : Int) ∧ Hid (∀ j, j < k → Q j) ∧ BxAt wr w.heap.size x ∧ FlB wr qh false ∧ FlB wr qf false ∧ BxJ wr x ∧ FView fnEnc wr aF Fs ∧ Below w.heap.size w wr) (fun i _ => Fs.length - (intOf i).toNat)
  case atStart => exact ⟨0, Nat.zero_le _, rfl, fun j hj => absurd hj (by omega), A, C1, C2, J, F, B⟩
  case round =>
    clear A C1 C2 J F B
    obtain ⟨k, hk, rfl, hQ, A, C1, C2, J, F, B⟩ := hrel
    by_cases hlt : k < Fs.length
    · obtain ⟨g, off, rfl, _⟩ := F (by omega)
      obtain ⟨f, hf⟩ : ∃ f, Fs.getD k 0 = f := ⟨_, rfl⟩
      have cF : wr.cell? ⟨g, off + k, none⟩ = some (.func (.func f) #[] #[]) := by have h1 := F.at_ fnEnc_len 0 hlt 0 (.func (.func (Fs.getD k 0)) #[] #[]) rfl; rw [hf] at h1; simpa using h1
      have ef : ∀ (args : Array Value) (w : World), (callFunc (Fs.getD k 0) args).run Tryz.prog w = .ok (.enter (Fs.getD k 0) args) w := hE k hlt
      have hcf := hc k hlt wr J
      rw [hf] at ef hcf
      replace hf : Hid _ := hf
      have cc := A
      obtain ⟨a0, a1, a2, a3, a4, a5, a6, a7, a8, a9⟩ := cc
      go_wp2_with fail
      clear a0 a1 a2 a3 a4 a5 a6 a7 a8 a9
      refine hcf.mono ?_
      rintro e u2 ⟨⟨rb, rfl, hrb⟩, kq⟩
      clear hcf ef cF
      have A := A.below kq A.lt
      have C1 := C1.below kq C1.lt
      have C2 := C2.below kq C2.lt
      have J := J.later kq
      have F := F.below kq (F.lt fnEnc_len (by omega))
      have B := B.trans (kq.mono B.size)
      replace hrb : Hid _ := hrb
      cases rb
      · obtain ⟨c2, f2⟩ := C2
        go_wp2
        have C2 := (FlB.mk c2 f2).put true
        have C1 := C1.keep (w' := u2.setCell ⟨qf, 0, none⟩ (.bool true)) (Below.heap_setCell _ _ _ _ (by show qh ≠ qf; omega))
        have B := B.setCell (p := ⟨qf, 0, none⟩) (by show w.heap.size ≤ qf; omega) (.bool true)
        refine leaves_cons (f := 153) (args := #[.pointer (some ⟨qf, 0, none⟩), .pointer (some ⟨qh, 0, none⟩)]) (by simp) (by simp [go_sem]) ?_
        refine (judge1 qf qh true false .returning _ C2.c C1.c C1.f).mono ?_
        rintro e u' w'' ⟨rfl, rfl, rfl⟩
        have C9 := (C1.put false).c
        have B9 : Below w.heap.size w ((u2.setCell ⟨qf, 0, none⟩ (.bool true)).setCell ⟨qh, 0, none⟩ (.bool (!true))) := B.setCell (p := ⟨qh, 0, none⟩) (by show w.heap.size ≤ qh; omega) _
        simp only [Bool.not_true, Bool.not_false] at B9
        simp [Leaves, settle, results, Tryz.results97, go_sem, C9]
        exact ⟨YN.no (by rw [hR.out]; rintro ⟨_, h⟩; have h1 := hrb.out.2 (h k hlt); cases h1), B9⟩
      · go_wp2
        go_roundw
        case rel =>
          refine ⟨k + 1, by omega, by go_num, fun j hj => ?_, A, C1, C2, J, F, B⟩
          by_cases ej : j = k
          · rw [ej]; first | exact hrb.out.1 rfl | exact hrb.out.1 trivial
          · exact hQ.out j (by omega)
        case measure => simp [intOf]; omega
    · obtain rfl : k = Fs.length := by omega
      go_wp2
      refine leaves_cons (f := 153) (args := #[.pointer (some ⟨qf, 0, none⟩), .pointer (some ⟨qh, 0, none⟩)]) (by simp) (by simp [go_sem]) ?_
      refine (judge1 qf qh false false .returning _ C2.c C1.c C1.f).mono ?_
      rintro e u' w'' ⟨rfl, rfl, rfl⟩
      have C9 := (C1.put true).c
      have B9 : Below w.heap.size w (wr.setCell ⟨qh, 0, none⟩ (.bool (!false))) := B.setCell (p := ⟨qh, 0, none⟩) (by show w.heap.size ≤ qh; omega) _
      simp only [Bool.not_true, Bool.not_false] at B9
      simp [Leaves, settle, results, Tryz.results97, go_sem, C9]
      exact ⟨YN.yes (by rw [hR.out]; exact ⟨hob.out, hQ.out⟩), B9⟩

end Go.Proofs.YtnpiljegdiconaaGreat
namespace Go.Proofs.YtnpiljegdiconaaGreat
open Go.ChangeShapes Go.WideShapes Go.ChangeAt Go.RowKit
open Go.ChangeMaps (open_string shut_string)
set_option linter.unusedVariables false
set_option maxRecDepth 100000

set_option maxHeartbeats 4000000 in
theorem bofI (id n : Int) (ad : Option Addr) (cap : Nat) (X : List Ik) (w : World) (hv : FView ikEnc w ad X) (hl : X.length ≤ 1048576) :
    Calls Tryz.prog 155 #[.int .i64 id, .int .i64 n, .slice ad X.length cap] w fun e w' => ∃ a c, e = .returned (.agg #[.int .i64 (newI id n), .slice a (ofR id n X).length c]) ∧ FOwn ptEnc 11 109 w.heap.size w' (.slice a (ofR id n X).length c) (ofR id n X) ∧ Below w.heap.size w w' := by
  have hB := hv.lt ikEnc_len (by omega)
  obtain ⟨y, hy⟩ : ∃ y, y = w.alloc (Obj.cells #[.int .i64 0, .slice none 0 0] 56) := ⟨_, rfl⟩
  have B0 : Below w.heap.size w y := by rw [hy]; exact below_new _
  have A0 : BBox y w.heap.size 0 (.slice none 0 0) := by rw [hy]; exact BBox.new w _ _ _
  have S0 := A0.lt
  have hR : ofR id n X = ofL (newI id n) (newL id n) X := rfl
  have hNl := newL_small id n
  have hno := fun h => ofR_not (id := id) (n := n) X h
  obtain ⟨I, hI⟩ : ∃ v, newI id n = v := ⟨_, rfl⟩
  obtain ⟨N, hN⟩ : ∃ v, newL id n = v := ⟨_, rfl⟩
  obtain ⟨ok, hok⟩ : ∃ v, nOk id n = v := ⟨_, rfl⟩
  obtain ⟨D, hD⟩ : ∃ v, ofR id n X = v := ⟨_, rfl⟩
  rw [hI, hN, hD] at hR
  rw [hI, hD, hok] at hno
  rw [hN] at hNl
  rw [hI, hD]
  replace hR : Hid _ := hR
  replace hno : Hid _ := hno
  replace hI : Hid _ := hI
  replace hN : Hid _ := hN
  replace hok : Hid _ := hok
  clear hD
  go_enter Tryz.func155, Tryz.ntmps155
  go_wp2_with fail
  go_at_call 29
  rw [← hy]
  clear hy
  refine (newBI id n y).mono ?_
  rintro e u1 ⟨a1, c1, rfl, O1, k1⟩
  rw [hN.out] at O1
  rw [hI.out, hN.out, hok.out]
  clear hI hN hok
  have B1 := B0.trans (k1.mono B0.size)
  have A0 := A0.below k1 A0.lt
  have s1 := k1.size
  have lo1 := O1.lt
  clear k1 B0
  obtain ⟨u2, hu2⟩ : ∃ u2, u2 = u1.alloc (Obj.cells #[.int .i64 I, .slice a1 N.length c1] 56) := ⟨_, rfl⟩
  have k2 : Below u1.heap.size u1 u2 := by rw [hu2]; exact below_new _
  have P2 : BBox u2 u1.heap.size I (.slice a1 N.length c1) := by rw [hu2]; exact BBox.new u1 _ _ _
  have B2 := B1.trans (k2.mono B1.size)
  have A0 := A0.below k2 A0.lt
  have O1 := O1.later k2
  have s2 := P2.lt
  go_upto_region 2 with fail
  rw [← hu2]
  clear hu2 k2 B1
  obtain ⟨p, hp⟩ : ∃ p, p = u1.heap.size := ⟨_, rfl⟩
  rw [← hp] at P2 s1 s2 lo1 ⊢
  clear hp
  have lp : w.heap.size < p := by omega
  cases ok
  · obtain ⟨hD0, hI0⟩ := hno.out rfl
    subst hD0
    subst hI0
    have O9 : FOwn ptEnc 11 109 w.heap.size ((u2.setCell ⟨w.heap.size, 0, none⟩ (.int .i64 0)).setCell ⟨w.heap.size, 1, none⟩ (.slice none 0 0)) (.slice none 0 0) ([] : List Pt) := FOwn.nil
    have B9 : Below w.heap.size w ((u2.setCell ⟨w.heap.size, 0, none⟩ (.int .i64 0)).setCell ⟨w.heap.size, 1, none⟩ (.slice none 0 0)) := (B2.setCell (p := ⟨w.heap.size, 0, none⟩) (Nat.le_refl _) _).setCell (p := ⟨w.heap.size, 1, none⟩) (Nat.le_refl _) _
    obtain ⟨⟨z0, z1⟩, zf⟩ := A0
    have g0 := zf 0
    have g1 := zf 1
    clear zf hR hno O1 lo1 P2 hNl
    go_wp2
    refine bodyPost_ret (v := .agg #[.int .i64 0, .slice none 0 0]) (by simp [results, Tryz.results155, go_sem, *]) rfl ⟨none, 0, rfl, O9, B9⟩
  clear hno
  go_wp2
  go_loopw [22] (fun i wr => ∃ (k : Nat) (a : Option Addr) (c : Nat) (L : List Pt), k ≤ X.length ∧ i = .int .i64 k ∧ ofL I N (X.take k) = L ∧ BBox wr p I (.slice a L.length c) ∧ FOwn ptEnc 11 109 w.heap.size wr (.slice a L.length c) L ∧ (∀ g, (Value.slice a L.length c).ownBlock = some g → g ≠ p ∧ g ≠ w.heap.size) ∧ BBox wr w.heap.size 0 (.slice none 0 0) ∧ Below w.heap.size w wr) (fun i _ => X.length - (intOf i).toNat)
  case atStart => exact ⟨0, a1, c1, N, Nat.zero_le _, rfl, rfl, P2, O1.base (by omega), fun g e => by have := lo1 g e; omega, A0, B2⟩
  case round =>
    obtain ⟨k, a, c, L, hk, rfl, hL, P, O, hne, A, B⟩ := hrel
    have hLl : L.length ≤ 4 := by rw [← hL, ofL_len]; exact hNl
    clear A0 P2 O1 B2 lo1
    by_cases hlt : k < X.length
    · have hst := ofL_step I N X Ik.nil hlt
      rw [hL] at hst
      replace hL : Hid _ := hL
      obtain ⟨b, off, rfl, _⟩ := hv (by omega)
      obtain ⟨x, hh⟩ : ∃ x, X.getD k Ik.nil = x := ⟨_, rfl⟩
      rw [hh] at hst
      have hck : IkAtO wr b (off + k * 8) x := by
        rw [← hh]
        exact ikAtO_of ((hv.below B hB).at_ ikEnc_len Ik.nil hlt)
      have hcB : b < w.heap.size := hB ⟨b, off, none⟩ rfl (by omega)
      replace hst : Hid _ := hst
      clear hh
      have lp2 := P.lt
      have bs := B.size
      have ln := O.lt
      obtain ⟨e0, e1, e2, e3, e4, e5, e6, e7⟩ := hck
      obtain ⟨u, hu⟩ : ∃ u, u = wr.alloc (Obj.cells #[.int .i64 x.k, .int .i64 x.q, .int .i64 x.r, .int .i64 x.c, .int .i64 x.b, .int .i64 x.p, .int .i64 x.h, .bool x.up] 105) := ⟨_, rfl⟩
      have ku : Below wr.heap.size wr u := by rw [hu]; exact below_new _
      have U : InAt u wr.heap.size x := by rw [hu]; exact InAt.new wr _ x
      have P := P.below ku P.lt
      have A := A.below ku A.lt
      have O := O.later ku
      have B3 := B.trans (ku.mono B.size)
      have su := ku.size
      go_upto_region 7 with fail
      rw [← hu]
      clear hu ku e0 e1 e2 e3 e4 e5 e6 e7 B
      have cc := P
      obtain ⟨⟨p0, p1⟩, pf⟩ := cc
      obtain ⟨e0, e1, e2, e3, e4, e5, e6, e7⟩ := U
      go_wp2_with fail
      go_at_call 156
      clear p0 p1 pf e0 e1 e2 e3 e4 e5 e6 e7
      refine (reactI I a c L x u O.view.2 (by omega) O.capn).mono ?_
      rintro e w2 ⟨a2, c2, o2, d2, rfl, O2, _, _, k2⟩
      obtain ⟨M, hM⟩ : ∃ M, reactL I L x = M := ⟨_, rfl⟩
      obtain ⟨OO, hOO⟩ : ∃ M, reactO I L x = M := ⟨_, rfl⟩
      rw [hM] at O2 ⊢
      rw [hOO]
      have hst2 : Hid (ofL I N (X.take (k + 1)) = M) := by unfold Hid; rw [hst.out]; exact hM
      clear hM hOO hst
      have P := P.below k2 P.lt
      have A := A.below k2 A.lt
      have B3 := B3.trans (k2.mono B3.size)
      have P9 := P.put I (.slice a2 M.length c2)
      have lo2 := O2.lt
      have O9 : FOwn ptEnc 11 109 w.heap.size ((w2.setCell ⟨p, 0, none⟩ (.int .i64 I)).setCell ⟨p, 1, none⟩ (.slice a2 M.length c2)) (.slice a2 M.length c2) M := (O2.base (by omega)).keep (fun g e => P.put1 I _ g (by have := lo2 g e; omega))
      have A9 := A.keep (P.put1 I (.slice a2 M.length c2) w.heap.size (by omega))
      have B9 : Below w.heap.size w ((w2.setCell ⟨p, 0, none⟩ (.int .i64 I)).setCell ⟨p, 1, none⟩ (.slice a2 M.length c2)) := (B3.setCell (p := ⟨p, 0, none⟩) (by show _ ≤ p; omega) _).setCell (p := ⟨p, 1, none⟩) (by show _ ≤ p; omega) _
      have hne9 : ∀ g, (Value.slice a2 M.length c2).ownBlock = some g → g ≠ p ∧ g ≠ w.heap.size := fun g e => by have := lo2 g e; omega
      clear O O2 hne ln A k2 B3 lo2
      obtain ⟨⟨p0, p1⟩, pf⟩ := P
      have g0 := pf 0
      have g1 := pf 1
      clear pf
      go_wp2
      go_roundw
      case rel => exact ⟨k + 1, a2, c2, M, by omega, by go_num, hst2.out, P9, O9, hne9, A9, B9⟩
      case measure => simp [intOf]; omega
    · obtain rfl : k = X.length := by omega
      rw [List.take_length] at hL
      obtain rfl : D = L := hR.out.trans hL
      have O9 : FOwn ptEnc 11 109 w.heap.size ((wr.setCell ⟨w.heap.size, 0, none⟩ (.int .i64 I)).setCell ⟨w.heap.size, 1, none⟩ (.slice a D.length c)) (.slice a D.length c) D := O.keep (fun g e => A.put1 I _ g (hne g e).2)
      have B9 : Below w.heap.size w ((wr.setCell ⟨w.heap.size, 0, none⟩ (.int .i64 I)).setCell ⟨w.heap.size, 1, none⟩ (.slice a D.length c)) := (B.setCell (p := ⟨w.heap.size, 0, none⟩) (Nat.le_refl _) _).setCell (p := ⟨w.heap.size, 1, none⟩) (Nat.le_refl _) _
      obtain ⟨⟨p0, p1⟩, pf⟩ := P
      obtain ⟨⟨z0, z1⟩, zf⟩ := A
      have g0 := zf 0
      have g1 := zf 1
      clear pf zf hne O B hL hR
      go_wp2
      refine bodyPost_ret (v := .agg #[.int .i64 I, .slice a D.length c]) (by simp [results, Tryz.results155, go_sem, *]) rfl ⟨a, c, rfl, O9, B9⟩

end Go.Proofs.YtnpiljegdiconaaGreat
namespace Go.Proofs.YtnpiljegdiconaaGreat
open Go.ChangeShapes Go.WideShapes Go.ChangeAt Go.RowKit
open Go.ChangeMaps (open_string shut_string)
set_option linter.unusedVariables false
set_option maxRecDepth 100000

set_option maxHeartbeats 4000000 in
theorem gatesI12r (id : Int) (ad : Option Addr) (cap : Nat) (L : List Pt) (w : World) (hv : FView ptEnc w ad L) (hl : L.length ≤ 1048576) :
    Calls Tryz.prog 73 #[.agg #[.int .i64 id, .slice ad L.length cap]] w fun e w' => ∃ a c, e = .returned (.slice a L.length c) ∧ FOwn boEnc 1 4 w.heap.size w' (.slice a L.length c) (gatesR L) ∧ Below w.heap.size w w' := by
  obtain ⟨i0, hi, hz0, hz1, hz2⟩ := info_parts boInfo
  obtain ⟨y, hy⟩ : ∃ y, y = w.alloc (Obj.cells #[.int .i64 id, .slice ad L.length cap] 56) := ⟨_, rfl⟩
  have B0 : Below w.heap.size w y := by rw [hy]; exact below_new _
  have A : BrAt y w.heap.size id (.slice ad L.length cap) := by rw [hy]; exact BrAt.new w _ _ _
  have hB := hv.lt ptEnc_len (by omega)
  have hV := hv.below B0 hB
  have hB := hV.lt ptEnc_len (by omega)
  have S0 := A.lt
  clear hv
  go_enter Tryz.func73, Tryz.ntmps73
  go_upto_region 1 with fail
  rw [← hy]
  clear hy
  have cc := A
  obtain ⟨a0, a1'⟩ := cc
  go_wp2_with (first | (refine wpList_make_full _ rfl _ _ 45 rfl y.heap.size 4 i0 (.bool false) 1 Tryz.underlying45 hi hz0 hz1 .i64 .i64 _ _ L.length rfl rfl rfl rfl ?c1 ?c2 ?c3 ?_))
  case c1 => rw [hz2]; omega
  case c2 => unfold maxLen; omega
  case c3 => exact Nat.le_refl _
  intro w1 hown hgrow
  have hgl : (gatesR L).length = L.length := gatesR_len L
  have F0 : FFill boEnc 1 4 y.heap.size w1 y.heap.size (gatesR L) 0 := FFill.start (by rw [hgl]; exact hown)
  have B1 : Below y.heap.size y w1 := (Below.refl _ _).grown hgrow (Nat.le_refl _) (by simp)
  clear hown hgrow a0 a1'
  have A1 := A.below B1 S0
  have cc := A1
  obtain ⟨a0, a1'⟩ := cc
  go_wp2
  clear a0 a1'
  go_loopw [13] (fun i wr => ∃ k : Nat, k ≤ L.length ∧ i = .int .i64 k ∧ FFill boEnc 1 4 y.heap.size wr y.heap.size (gatesR L) k ∧ Below y.heap.size y wr) (fun i _ => L.length - (intOf i).toNat)
  case atStart => exact ⟨0, Nat.zero_le _, rfl, F0, B1⟩
  case round =>
    obtain ⟨k, hk, rfl, F, B⟩ := hrel
    clear F0 B1 A1
    by_cases hlt : k < L.length
    · obtain ⟨b, off, rfl, _⟩ := hV (by omega)
      obtain ⟨h, hh⟩ : ∃ h, L.getD k Pt.nil = h := ⟨_, rfl⟩
      have hck : PtAtO wr b (off + k * 11) h := by
        rw [← hh]
        exact ptAtO_of ((hV.below B hB).at_ ptEnc_len Pt.nil hlt)
      obtain ⟨c0, c1, c2, c3, c4, c5, c6, c7, c8, c9, c10⟩ := hck
      have hsz := F.lt
      obtain ⟨u, hu⟩ : ∃ u, u = wr.alloc (Obj.cells #[.bool h.up, .bool h.has, .int .i64 h.r, .int .i64 h.c, .int .i64 h.b, .int .i64 h.p, .int .i64 h.h, .int .i64 h.l, .int .i64 h.ro, .int .i64 h.wa, .bool h.op] 109) := ⟨_, rfl⟩
      have ku : Below wr.heap.size wr u := by rw [hu]; exact below_new _
      have G := F.keep (ku.block _ hsz.2)
      have B2 := B.trans (ku.mono (Nat.le_of_lt hsz.2))
      have U : PtAt u wr.heap.size h := by rw [hu]; exact ptAt_box wr _ _
      obtain ⟨v0, hv0⟩ := G.cell (k * 1) (by rw [hgl]; omega)
      have f0 := G.frozen (k * 1)
      rw [Nat.mul_one] at hv0 f0
      have G1 := G.step boEnc_len false (by rw [hgl]; exact hlt)
      have B3 := below_putAll (Nat.le_refl _) (boEnc h.op) (k * 1) B2
      rw [gatesR_at L hlt, hh] at G1
      simp only [boEnc, putAll, Nat.mul_one] at G1 B3
      clear F G B B2 hh hsz ku
      go_upto_region 5 with fail
      rw [← hu]
      clear hu c0 c1 c2 c3 c4 c5 c6 c7 c8 c9 c10
      obtain ⟨c0, c1, c2, c3, c4, c5, c6, c7, c8, c9, c10⟩ := U
      go_wp2
      go_roundw
      case rel => exact ⟨k + 1, by omega, by go_num, G1, B3⟩
      case measure => simp [intOf]; omega
    · obtain rfl : k = L.length := by omega
      have OZ : FOwn boEnc 1 4 w.heap.size wr (.slice (some ⟨y.heap.size, 0, none⟩) L.length L.length) (gatesR L) := by
        have := FFill.done boEnc_len (L := gatesR L) (by rw [hgl]; exact F)
        rw [hgl] at this
        exact this.base B0.size
      have bZ := B0.trans (B.mono B0.size)
      go_wp2
      go_ret
      exact ⟨_, _, rfl, OZ, bZ⟩
theorem gatesI12 (id : Int) (ad : Option Addr) (cap : Nat) (L : List Pt) (w : World) (hv : FView ptEnc w ad L) (hl : L.length ≤ 1048576) :
    Calls Tryz.prog 73 #[.agg #[.int .i64 id, .slice ad L.length cap]] w fun e w' => ∃ a c, e = .returned (.slice a (gatesR L).length c) ∧ FOwn boEnc 1 4 w.heap.size w' (.slice a (gatesR L).length c) (gatesR L) ∧ Below w.heap.size w w' := by
  rw [gatesR_len]
  exact gatesI12r id ad cap L w hv hl

end Go.Proofs.YtnpiljegdiconaaGreat
namespace Go.Proofs.YtnpiljegdiconaaGreat
open Go.ChangeShapes Go.WideShapes Go.ChangeAt Go.RowKit
open Go.ChangeMaps (open_string shut_string)
set_option linter.unusedVariables false
set_option maxRecDepth 100000

set_option linter.unusedSimpArgs false in
set_option maxHeartbeats 4000000 in
theorem gatesOfI (x : BxD) (w : World) (hJ : BxJ w x) (hb : bxOk x.p = true) :
    Calls Tryz.prog 98 #[.agg #[.int .i64 x.id, .int .i64 x.po, .int .i64 x.rg.ep, .int .i64 x.rg.ow, .int .i64 x.rg.pa, .slice x.aT x.two.length x.cT, .slice x.aN x.net.length x.cN, .slice x.aG x.ga.length x.cG, .slice x.aL x.ln.length x.cL, .slice x.aS x.sd.length x.cS]] w fun e w' => YN e (gatesJ x.p) ∧ Below w.heap.size w w' := by
  obtain ⟨Q, hQ⟩ : ∃ Q : Prop, Q = (gatesJ x.p) := ⟨_, rfl⟩
  rw [← hQ]
  replace hQ : Hid _ := hQ
  obtain ⟨y, hy⟩ : ∃ y, y = w.alloc (Obj.cells #[.int .i64 x.id, .int .i64 x.po, .int .i64 x.rg.ep, .int .i64 x.rg.ow, .int .i64 x.rg.pa, .slice x.aT x.two.length x.cT, .slice x.aN x.net.length x.cN, .slice x.aG x.ga.length x.cG, .slice x.aL x.ln.length x.cL, .slice x.aS x.sd.length x.cS] 48) := ⟨_, rfl⟩
  have B : Below w.heap.size w y := by rw [hy]; exact below_new _
  have A : BxAt y w.heap.size x := by rw [hy]; exact BxAt.new w _ x
  have J := hJ.later B
  have hln : x.ln.length ≤ 60 := (bxOk_smJ hb).2.2.2.2.1
  have hga : x.ga.length ≤ 4 := (bxOk_smJ hb).2.2.2.1
  have hQ2 : Hid (Q ↔ x.ga = gatesR (ofR x.id x.po x.ln)) := by unfold Hid; rw [hQ.out]; unfold gatesJ; exact eq_comm
  have hR4 := ofR_len x.id x.po x.ln
  have hG4 := gatesR_len (ofR x.id x.po x.ln)
  obtain ⟨I, hI⟩ : ∃ v, newI x.id x.po = v := ⟨_, rfl⟩
  obtain ⟨D, hD⟩ : ∃ v, ofR x.id x.po x.ln = v := ⟨_, rfl⟩
  rw [hD] at hQ2 hR4 hG4
  obtain ⟨G, hG⟩ : ∃ v, gatesR D = v := ⟨_, rfl⟩
  rw [hG] at hQ2 hG4
  have hG5 : G.length ≤ 4 := by omega
  replace hI : Hid _ := hI
  replace hD : Hid _ := hD
  replace hG : Hid _ := hG
  clear hQ hb hG4
  go_enter Tryz.func98, Tryz.ntmps98
  go_upto_region 1 with fail
  rw [← hy]
  clear hy
  refine wp_region_held (S := fun Y => Below y.heap.size y Y) (by kernel_rfl) ?_
  change wpAnyH _ _ _ _ _ _ _ _ (World.drew _)
  have hb0 : Below y.heap.size y y.drew := (Below.refl _ _).drew
  obtain ⟨u0, hu0⟩ : ∃ y_, y_ = y.drew := ⟨_, rfl⟩
  rw [← hu0] at hb0 ⊢
  clear hu0
  refine takeW 0 3 (.pointer (some ⟨w.heap.size, 7, none⟩)) rfl rfl (by kernel_rfl) (by kernel_rfl) (by kernel_rfl) (fun _ _ _ h => h) (by kernel_rfl) (by (intro w hSw; go_simp)) (by assumption) ?_
  simp only [List.set_cons_zero, List.set_cons_succ]
  refine takeW 1 4 (.slice x.aG x.ga.length x.cG) rfl rfl (by kernel_rfl) (by kernel_rfl) (by kernel_rfl) (fun _ _ _ h => h) (by kernel_rfl) (by (intro Y hSw; obtain ⟨X0, X1, X2, X3, X4, X5, X6, X7, X8, X9⟩ := A.below hSw A.lt; go_simp)) (by assumption) ?_
  simp only [List.set_cons_zero, List.set_cons_succ]
  refine takeW 2 5 (.pointer (some ⟨w.heap.size, 0, none⟩)) rfl rfl (by kernel_rfl) (by kernel_rfl) (by kernel_rfl) (fun _ _ _ h => h) (by kernel_rfl) (by (intro w hSw; go_simp)) (by assumption) ?_
  simp only [List.set_cons_zero, List.set_cons_succ]
  refine takeW 3 6 (.int .i64 x.id) rfl rfl (by kernel_rfl) (by kernel_rfl) (by kernel_rfl) (fun _ _ _ h => h) (by kernel_rfl) (by (intro Y hSw; obtain ⟨X0, X1, X2, X3, X4, X5, X6, X7, X8, X9⟩ := A.below hSw A.lt; go_simp)) (by assumption) ?_
  simp only [List.set_cons_zero, List.set_cons_succ]
  refine takeW 4 7 (.pointer (some ⟨w.heap.size, 1, none⟩)) rfl rfl (by kernel_rfl) (by kernel_rfl) (by kernel_rfl) (fun _ _ _ h => h) (by kernel_rfl) (by (intro w hSw; go_simp)) (by assumption) ?_
  simp only [List.set_cons_zero, List.set_cons_succ]
  refine takeW 5 8 (.int .i64 x.po) rfl rfl (by kernel_rfl) (by kernel_rfl) (by kernel_rfl) (fun _ _ _ h => h) (by kernel_rfl) (by (intro Y hSw; obtain ⟨X0, X1, X2, X3, X4, X5, X6, X7, X8, X9⟩ := A.below hSw A.lt; go_simp)) (by assumption) ?_
  simp only [List.set_cons_zero, List.set_cons_succ]
  refine takeW 6 9 (.pointer (some ⟨w.heap.size, 8, none⟩)) rfl rfl (by kernel_rfl) (by kernel_rfl) (by kernel_rfl) (fun _ _ _ h => h) (by kernel_rfl) (by (intro w hSw; go_simp)) (by assumption) ?_
  simp only [List.set_cons_zero, List.set_cons_succ]
  refine takeW 7 10 (.slice x.aL x.ln.length x.cL) rfl rfl (by kernel_rfl) (by kernel_rfl) (by kernel_rfl) (fun _ _ _ h => h) (by kernel_rfl) (by (intro Y hSw; obtain ⟨X0, X1, X2, X3, X4, X5, X6, X7, X8, X9⟩ := A.below hSw A.lt; go_simp)) (by assumption) ?_
  simp only [List.set_cons_zero, List.set_cons_succ]
  refine wpAnyH_all (rs := [8]) (by kernel_rfl) (by simp) ?_
  intro i hi; obtain rfl : i = 8 := by simpa using hi
  refine wpOp_step rfl (fun Kz hKz => ?_)
  rw [if_pos (by kernel_rfl)]
  go_simp
  go_at_call 155
  refine (bofI x.id x.po x.aL x.cL x.ln u0 (J.later hb0).v.i (by omega)).mono ?_
  rintro e u1 ⟨a1, c1, rfl, O1, kq⟩
  have hb1 : Below y.heap.size y u1 := hb0.trans (kq.mono hb0.size)
  clear kq
  rw [hD.out] at O1
  rw [hI.out, hD.out]
  refine hKz _ _ ⟨hb1, ?_⟩
  clear hKz Kz hi
  refine wpAnyH_all (rs := [9]) (by kernel_rfl) (by simp) ?_
  intro i hi; obtain rfl : i = 9 := by simpa using hi
  refine wpOp_step rfl (fun Kz hKz => ?_)
  rw [if_pos (by kernel_rfl)]
  go_simp
  go_at_call 73
  refine (gatesI12 I a1 c1 D u1 O1.view.2 (by omega)).mono ?_
  rintro e u2 ⟨a2, c2, rfl, O2, kq⟩
  have hb2 : Below y.heap.size y u2 := hb1.trans (kq.mono hb1.size)
  clear kq
  rw [hG.out] at O2
  rw [hG.out]
  refine hKz _ _ ⟨hb2, ?_⟩
  clear hKz Kz hi
  refine wpAnyH_all (rs := [10]) (by kernel_rfl) (by simp) ?_
  intro i hi; obtain rfl : i = 10 := by simpa using hi
  refine wpOp_step rfl (fun Kz hKz => ?_)
  rw [if_pos (by kernel_rfl)]
  go_simp
  go_at_call 154
  refine (boEql x.aG a2 x.cG c2 x.ga G u2 (J.later hb2).v.g O2.view.2 (by omega) (by omega)).mono ?_
  rintro e u3 ⟨⟨rb, rfl, hrb⟩, kq⟩
  have hb3 : Below y.heap.size y u3 := hb2.trans (kq.mono hb2.size)
  clear kq
  replace hrb : Hid _ := hrb
  refine hKz _ _ ⟨hb3, ?_⟩
  clear hKz Kz hi
  refine takeW 11 2 (.bool rb) rfl rfl (by kernel_rfl) (by kernel_rfl) (by kernel_rfl) (fun _ _ _ h => h) (by kernel_rfl) (by (intro w hSw; go_simp)) (by assumption) ?_
  simp only [List.set_cons_zero, List.set_cons_succ]
  refine wpAnyH_done (by kernel_rfl) ?_ _
  have B := B.trans (hb3.mono B.size)
  go_wp2
  go_ret
  exact ⟨YN.is (by rw [hQ2.out]; exact hrb.out), B⟩

end Go.Proofs.YtnpiljegdiconaaGreat
namespace Go.Proofs.YtnpiljegdiconaaGreat
open Go.ChangeShapes Go.WideShapes Go.ChangeAt Go.RowKit
open Go.ChangeMaps (open_string shut_string)
set_option linter.unusedVariables false
set_option maxRecDepth 100000

set_option linter.unusedSimpArgs false in
set_option maxHeartbeats 4000000 in
theorem jGatesI (x : BxD) (w : World) (hJ : BxJ w x) :
    Calls Tryz.prog 42 #[.agg #[.int .i64 x.id, .int .i64 x.po, .int .i64 x.rg.ep, .int .i64 x.rg.ow, .int .i64 x.rg.pa, .slice x.aT x.two.length x.cT, .slice x.aN x.net.length x.cN, .slice x.aG x.ga.length x.cG, .slice x.aL x.ln.length x.cL, .slice x.aS x.sd.length x.cS]] w fun e w' => YN e (bxOk x.p = true ∧ gatesJ x.p) ∧ Below w.heap.size w w' := by
  obtain ⟨Q, hQ⟩ : ∃ Q : Prop, Q = (bxOk x.p = true ∧ gatesJ x.p) := ⟨_, rfl⟩
  rw [← hQ]
  have hQ2 : Hid ((bxOk x.p = true ∧ ∀ k, k < 1 → ([gatesJ x.p] : List Prop).getD k True) ↔ Q) := by
    unfold Hid
    rw [hQ]
    constructor
    · rintro ⟨h0, h⟩
      exact ⟨h0, h 0 (by decide)⟩
    · rintro ⟨h0, q0⟩
      refine ⟨h0, fun k hk => ?_⟩
      rcases (by omega : k = 0) with rfl
      · exact q0
  clear hQ
  obtain ⟨y, hy⟩ : ∃ y, y = w.alloc (Obj.cells #[.int .i64 x.id, .int .i64 x.po, .int .i64 x.rg.ep, .int .i64 x.rg.ow, .int .i64 x.rg.pa, .slice x.aT x.two.length x.cT, .slice x.aN x.net.length x.cN, .slice x.aG x.ga.length x.cG, .slice x.aL x.ln.length x.cL, .slice x.aS x.sd.length x.cS] 48) := ⟨_, rfl⟩
  have B : Below w.heap.size w y := by rw [hy]; exact below_new _
  have A : BxAt y w.heap.size x := by rw [hy]; exact BxAt.new w _ x
  have J := hJ.later B
  go_enter Tryz.func42, Tryz.ntmps42
  go_upto_region 1 with fail
  rw [← hy]
  clear hy
  have cc := A
  obtain ⟨a0, a1, a2, a3, a4, a5, a6, a7, a8, a9⟩ := cc
  go_wp2_with fail
  go_at_call 97
  clear a0 a1 a2 a3 a4 a5 a6 a7 a8 a9
  obtain ⟨y2, hy2⟩ : ∃ y_, y_ = y.alloc (Obj.cells #[.func (.func 98) #[] #[]] 185) := ⟨_, rfl⟩
  have V2 : FView fnEnc y2 (some ⟨y.heap.size, 0, none⟩) [98] := by
    rw [hy2]
    intro _
    refine ⟨y.heap.size, 0, rfl, fun j v hv => ?_⟩
    simp only [fcells, fnEnc, List.append_nil, List.cons_append, List.nil_append] at hv
    have hj : j < 1 := (List.getElem?_eq_some_iff.1 hv).1
    rcases (by omega : j = 0) with rfl <;> (cases hv; simp [go_sem])
  have kq : Below y.heap.size y y2 := by rw [hy2]; exact below_new _
  rw [← hy2]
  have J := J.later kq
  have B := B.trans (kq.mono B.size)
  clear hy2 kq A
  refine (judgeI x [98] (fun k => ([gatesJ x.p] : List Prop).getD k True) (some ⟨y.heap.size, 0, none⟩) 1 y2 J V2 (by decide) (fun k hk => ?_) (fun h0 k hk w' hj => ?_)).mono ?_
  · have hk : k < 1 := hk
    rcases (by omega : k = 0) with rfl
    · exact enters_of Tryz.func98 (by kernel_rfl) rfl
  · have hk : k < 1 := hk
    rcases (by omega : k = 0) with rfl
    · exact gatesOfI x w' hj h0
  · rintro e u9 ⟨⟨rb, rfl, hrb⟩, kq⟩
    have B := B.trans (kq.mono B.size)
    have hrb : Hid (rb = true ↔ Q) := by unfold Hid; rw [← hQ2.out]; exact hrb
    clear kq J V2
    go_wp2
    go_ret
    exact ⟨YN.is hrb.out, B⟩

end Go.Proofs.YtnpiljegdiconaaGreat
