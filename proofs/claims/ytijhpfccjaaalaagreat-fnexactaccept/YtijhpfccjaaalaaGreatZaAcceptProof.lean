/- FnExactAccept, proved: at every box, number and list the program's Accept answers as the specification's, its answer owns its memory, and no argument is written into; no condition. -/
import Derived.Test.YtijhpfccjaaalaaGreatRows
import Derived.Test.YtijhpfccjaaalaaGreatZa1
import Derived.Test.YtijhpfccjaaalaaGreatZa2
import Derived.Test.YtijhpfccjaaalaaGreatZa3
import Derived.Test.YtijhpfccjaaalaaGreatTakes
import Derived.Deep.Cut
import Derived.WalkKit
import Derived.Below
import Derived.ChangeOld
import Derived.WalkSmall
import Derived.ProofKit
import Derived.OpenShut
import Derived.ShutString
import Derived.BigQuiet
namespace Go.Proofs.YtijhpfccjaaalaaGreat.fnExactAccept
open Go.ChangeShapes Go.WideShapes Go.ChangeAt Go.RowKit
set_option linter.unusedVariables false

theorem own : ownKnob Tryz.prog.godebug = none := by kernel_rfl
theorem laidOut : laidOutB Tryz.prog = true := by kernel_rfl

set_option maxRecDepth 100000 in
theorem intIn_open {H : Type} {enc : TypeId × Value → H} {w : World} {r : Reach} {b0 : Nat} {v : Value} {d : DataW H} {p : List MemPlace} (hv : Value.okWide Tryz.prog w r b0 3 v) (h : DataW.Trod enc Tryz.prog w 0 (fun _ => true) true 3 v d p) : ∃ n : Int, v = .int .i64 n ∧ (Lit.int .i64 n).wf = true := by
  obtain ⟨n, rfl, _, _, I⟩ := open_int Tryz.underlying3 hv h
  exact ⟨n, rfl, I⟩
set_option maxRecDepth 100000 in
theorem boolIn_open {H : Type} {enc : TypeId × Value → H} {w : World} {r : Reach} {b0 : Nat} {v : Value} {d : DataW H} {p : List MemPlace} (hv : Value.okWide Tryz.prog w r b0 4 v) (h : DataW.Trod enc Tryz.prog w 0 (fun _ => true) true 4 v d p) : ∃ b : Bool, v = .bool b ∧ True := by
  obtain ⟨b, rfl, _, _⟩ := open_bool Tryz.underlying4 hv h
  exact ⟨b, rfl, trivial⟩
theorem BxO.in_ {base : Nat} {w : World} {x : BxD} (h : BxO base w x) (k : BxSm x) : BxIn w x := by
  have hm : (1048576 : Nat) ≤ maxLen := by unfold maxLen; omega
  exact ⟨⟨h.t.view.2, fun i hi => (h.l i hi).view.2, fun i hi e => own_noneM (by have := h.l i hi; rw [e] at this; exact this)⟩, Nat.le_trans k.t hm, fun i hi => Nat.le_trans (k.ls i hi) hm, h.t.capM, fun e => own_noneM (by have := h.t; rw [e] at this; exact this), h.n.view.2, Nat.le_trans k.n hm, fun e => own_noneM (by have := h.n; rw [e] at this; exact this), h.g.view.2, Nat.le_trans k.g hm, fun e => own_noneM (by have := h.g; rw [e] at this; exact this), h.i.view.2, Nat.le_trans k.i hm, fun e => own_noneM (by have := h.i; rw [e] at this; exact this), h.s.view.2, Nat.le_trans k.s hm, fun e => own_noneM (by have := h.s; rw [e] at this; exact this)⟩
theorem accX_sm {x z : BxD} {s : Int} {L : List Ou} (K : BxSm x) (h : z.p = accX x.p s L) : BxSm z := by
  cases hm : mindsX x.p s
  · exact K.of (h.trans (by unfold accX; rw [hm]; rfl))
  · have K2 : BxSm { x with ga := L.foldl gateX x.ga, sd := lastS (x.sd ++ L) } := ⟨K.t, K.l, K.n, by show (L.foldl gateX x.ga).length ≤ _; rw [gateX_len]; exact K.g, K.i, by show (lastS (x.sd ++ L)).length ≤ _; have := lastS_len (x.sd ++ L); omega⟩
    exact K2.of (h.trans (accX_yes hm))
set_option maxRecDepth 100000 in
theorem ousIn_open {H : Type} {enc : TypeId × Value → H} {w : World} {r : Reach} {b0 : Nat} {v : Value} {d : DataW H} {p : List MemPlace} (hv : Value.okWide Tryz.prog w r b0 46 v) (h : DataW.Trod enc Tryz.prog w 0 (fun _ => true) true 46 v d p) :
    ∃ ad cap L, v = .slice ad L.length cap ∧ L.length ≤ maxLen ∧ FView ouEnc w ad L ∧ (ad = none → cap = 0) := by
  obtain ⟨n, hn⟩ := h
  obtain ⟨a0, len0, cap0, rfl⟩ := okWide_slice (P := Tryz.prog) (t := 46) (e := 104) Tryz.underlying46 hv
  exact ouRow_open (by simpa [Value.cells] using hn)
set_option maxHeartbeats 16000000 in
set_option maxRecDepth 100000 in
theorem walk (x0 : BxD) (n1 : Int) (ad2 : Option Addr) (cap2 : Nat) (L2 : List Ou) (w : World) (I0 : BxIn w x0) (I1 : (Lit.int .i64 n1).wf = true) (I2 : L2.length ≤ maxLen ∧ FView ouEnc w ad2 L2 ∧ (ad2 = none → cap2 = 0)) :
    Calls Tryz.prog 4 #[.agg #[.int .i64 x0.id, .int .i64 x0.po, .int .i64 x0.rg.ep, .int .i64 x0.rg.ow, .int .i64 x0.rg.pa, .slice x0.aT x0.two.length x0.cT, .slice x0.aN x0.net.length x0.cN, .slice x0.aG x0.ga.length x0.cG, .slice x0.aL x0.ln.length x0.cL, .slice x0.aS x0.sd.length x0.cS], .int .i64 n1, .slice ad2 L2.length cap2] w fun e w' => e = .returned (.bool true) ∧ Below w.heap.size w w' := by
  obtain ⟨hlm, V2, hn2⟩ := I2
  have LI := I0.lt
  clear I1
  have vb : ∀ a, ad2 = some a → 0 < L2.length → a.block < w.heap.size := V2.lt ouEnc_len (by omega)
  obtain ⟨y0, hx⟩ : ∃ y_, y_ = w.alloc (Obj.cells #[.int .i64 x0.id, .int .i64 x0.po, .int .i64 x0.rg.ep, .int .i64 x0.rg.ow, .int .i64 x0.rg.pa, .slice x0.aT x0.two.length x0.cT, .slice x0.aN x0.net.length x0.cN, .slice x0.aG x0.ga.length x0.cG, .slice x0.aL x0.ln.length x0.cL, .slice x0.aS x0.sd.length x0.cS] 48) := ⟨_, rfl⟩
  have A0 : BxAt y0 w.heap.size x0 := by rw [hx]; exact BxAt.new w _ _
  have BW : Below w.heap.size w y0 := by rw [hx]; exact below_new _
  have I := I0.below BW
  have V2 := V2.below BW vb
  clear I0
  have ly0 := A0.lt
  go_enter Tryz.func4, Tryz.ntmps4
  have cc := A0
  obtain ⟨m0, m1, m2, m3, m4, m5, m6, m7, m8, m9⟩ := cc
  go_wp2_with fail
  go_at_call 19
  rw [← hx]
  clear hx m0 m1 m2 m3 m4 m5 m6 m7 m8 m9
  refine (bxSz x0 y0 I).mono ?_
  rintro e y1 ⟨lf, rfl, hc, kq⟩
  have sy1 := kq.size
  have I := I.below kq
  have A0 := A0.below kq A0.lt
  have V2 := V2.below kq (V2.lt ouEnc_len (by omega))
  have BW := BW.trans (kq.mono BW.size)
  clear kq
  rcases hc with hc | ⟨hlf, hlf1, K⟩
  · have hd : decide (lf < 0) = true := decide_eq_true hc
    go_wp2
    go_ret
    exact ⟨rfl, BW⟩
  have hd : decide (lf < 0) = false := decide_eq_false (by omega)
  have hlf' : ¬ lf < 0 := by omega
  go_wp2_with fail
  go_at_call 20
  refine (ouSz ad2 L2.length cap2 lf y1 hlf hlf1 hlm).mono ?_
  rintro e yS ⟨rfl, hw_⟩
  rw [hw_]
  clear hw_ yS
  by_cases hl : (L2.length : Int) ≤ lf
  rotate_left
  · rw [if_neg hl]
    go_wp2
    go_ret
    exact ⟨rfl, BW⟩
  rw [if_pos hl]
  have hl2 : L2.length ≤ 1048576 := by omega
  obtain ⟨lf2, hlf2⟩ : ∃ l, l = lf - (L2.length : Int) := ⟨_, rfl⟩
  rw [← hlf2]
  have hlf3 : 0 ≤ lf2 := by omega
  clear hlf2 hd hlf' hl hlf hlf1
  have hd : decide (lf2 < 0) = false := decide_eq_false (by omega)
  have hlf' : ¬ lf2 < 0 := by omega
  obtain ⟨B, hB⟩ : ∃ B, B = accX x0.p n1 L2 := ⟨_, rfl⟩
  replace hB : Hid _ := hB
  have cc := A0
  obtain ⟨m0_0, m0_1, m0_2, m0_3, m0_4, m0_5, m0_6, m0_7, m0_8, m0_9⟩ := cc
  go_wp2_with fail
  go_at_call 22
  clear m0_0 m0_1 m0_2 m0_3 m0_4 m0_5 m0_6 m0_7 m0_8 m0_9
  refine (bxTo x0 y1 I K).mono ?_
  rintro e wd1 ⟨z1, rfl, pz1, Mz1, kq⟩
  have swd1 := kq.size
  have I := I.below kq
  have A0 := A0.below kq A0.lt
  have V2 := V2.below kq (V2.lt ouEnc_len (by omega))
  have BW := BW.trans (kq.mono BW.size)
  clear kq
  have Kz1 := K.of pz1
  have Jz1 := Mz1.in_ Kz1
  replace pz1 : Hid _ := pz1
  obtain ⟨hz1, ehz1⟩ : ∃ h_, h_ = wd1.heap.size := ⟨_, rfl⟩
  rw [← ehz1] at Mz1
  have ehz1 := Nat.le_of_eq ehz1
  go_wp2_with fail
  go_at_call 23
  refine (ouToS ad2 cap2 L2 wd1 V2 hl2).mono ?_
  rintro e wd2 ⟨rfl, O1, kq⟩
  obtain ⟨gO1, hgO1⟩ : ∃ q, q = wd1.heap.size := ⟨_, rfl⟩
  rw [← hgO1] at O1 ⊢
  have hgO1' := Nat.le_of_eq hgO1
  replace hgO1 := Nat.le_of_eq hgO1.symm
  have iO1 : ∀ g, (Value.slice (some ⟨gO1, 0, none⟩) L2.length L2.length).ownBlock = some g → wd1.heap.size ≤ g ∧ g < wd2.heap.size := fun g e => by have := O1.lt g e; omega
  have swd2 := kq.size
  have I := I.below kq
  have A0 := A0.below kq A0.lt
  have Mz1 := Mz1.below kq (by omega)
  have Jz1 := Jz1.below kq
  have V2 := V2.below kq (V2.lt ouEnc_len (by omega))
  have BW := BW.trans (kq.mono BW.size)
  clear kq
  go_wp2_with fail
  go_at_call 21
  refine (acceptS z1 n1 (some ⟨gO1, 0, none⟩) L2.length L2 wd2 (Jz1.v Kz1) Jz1.nn Jz1.gn Jz1.ic Jz1.sn Jz1.t.nil0 O1.view.2 hl2).mono ?_
  rintro e wd3 ⟨zW, rfl, pW, OW, kq⟩
  have pW : zW.p = B := by rw [pW, pz1.out, hB.out]
  have KW : BxSm zW := accX_sm K (pW.trans hB.out)
  have JW := BxO.in_ OW KW
  have LW := JW.lt
  replace pW : Hid _ := pW
  have swd3 := kq.size
  have I := I.below kq
  have A0 := A0.below kq A0.lt
  have V2 := V2.below kq (V2.lt ouEnc_len (by omega))
  have BW := BW.trans (kq.mono BW.size)
  clear kq
  clear OW Mz1 Jz1 O1 iO1 Kz1 pz1
  obtain ⟨wd4, hwd4⟩ : ∃ y_, y_ = wd3.alloc (Obj.cells #[.int .i64 zW.id, .int .i64 zW.po, .int .i64 zW.rg.ep, .int .i64 zW.rg.ow, .int .i64 zW.rg.pa, .slice zW.aT zW.two.length zW.cT, .slice zW.aN zW.net.length zW.cN, .slice zW.aG zW.ga.length zW.cG, .slice zW.aL zW.ln.length zW.cL, .slice zW.aS zW.sd.length zW.cS] 55) := ⟨_, rfl⟩
  have AW : BxAt wd4 wd3.heap.size zW := by rw [hwd4]; exact BxAt.new wd3 _ _
  have kq : Below wd3.heap.size wd3 wd4 := by rw [hwd4]; exact below_new _
  have lwd4 := AW.lt
  have swd4 := kq.size
  have I := I.below kq
  have JW := JW.below kq
  have A0 := A0.below kq A0.lt
  have V2 := V2.below kq (V2.lt ouEnc_len (by omega))
  have BW := BW.trans (kq.mono BW.size)
  clear kq
  go_upto_region 9 with fail
  rw [← hwd4]
  clear hwd4
  have cc := A0
  obtain ⟨m0_0, m0_1, m0_2, m0_3, m0_4, m0_5, m0_6, m0_7, m0_8, m0_9⟩ := cc
  go_wp2_with fail
  go_at_call 22
  clear m0_0 m0_1 m0_2 m0_3 m0_4 m0_5 m0_6 m0_7 m0_8 m0_9
  refine (bxToN x0 wd4 I K).mono ?_
  rintro e wd5 ⟨zX, rfl, pzX, ⟨midX, NX⟩, kq⟩
  have swd5 := kq.size
  have I := I.below kq
  have JW := JW.below kq
  have A0 := A0.below kq A0.lt
  have AW := AW.below kq AW.lt
  have V2 := V2.below kq (V2.lt ouEnc_len (by omega))
  have BW := BW.trans (kq.mono BW.size)
  clear kq
  have KzX := K.of pzX
  replace pzX : Hid _ := pzX
  obtain ⟨hX, ehX⟩ : ∃ h_, h_ = wd5.heap.size := ⟨_, rfl⟩
  rw [← ehX] at NX
  have ehX' := Nat.le_of_eq ehX
  replace ehX := Nat.le_of_eq ehX.symm
  obtain ⟨lX, elX⟩ : ∃ h_, h_ = wd4.heap.size := ⟨_, rfl⟩
  rw [← elX] at NX
  have elX' := Nat.le_of_eq elX
  replace elX := Nat.le_of_eq elX.symm
  have lmX := NX.lm
  have mhX := NX.mh
  obtain ⟨wd6, hwd6⟩ : ∃ y_, y_ = wd5.alloc (Obj.cells #[.int .i64 zX.id, .int .i64 zX.po, .int .i64 zX.rg.ep, .int .i64 zX.rg.ow, .int .i64 zX.rg.pa, .slice zX.aT zX.two.length zX.cT, .slice zX.aN zX.net.length zX.cN, .slice zX.aG zX.ga.length zX.cG, .slice zX.aL zX.ln.length zX.cL, .slice zX.aS zX.sd.length zX.cS] 55) := ⟨_, rfl⟩
  have AX : BxAt wd6 wd5.heap.size zX := by rw [hwd6]; exact BxAt.new wd5 _ _
  have kq : Below wd5.heap.size wd5 wd6 := by rw [hwd6]; exact below_new _
  have lwd6 := AX.lt
  have swd6 := kq.size
  have I := I.below kq
  have JW := JW.below kq
  have NX := NX.below kq (by omega)
  have A0 := A0.below kq A0.lt
  have AW := AW.below kq AW.lt
  have V2 := V2.below kq (V2.lt ouEnc_len (by omega))
  have BW := BW.trans (kq.mono BW.size)
  clear kq
  go_upto_region 10 with fail
  rw [← hwd6]
  clear hwd6
  go_wp2_with fail
  go_at_call 23
  refine (ouToS ad2 cap2 L2 wd6 V2 hl2).mono ?_
  rintro e wd7 ⟨rfl, OX, kq⟩
  obtain ⟨gOX, hgOX⟩ : ∃ q, q = wd6.heap.size := ⟨_, rfl⟩
  rw [← hgOX] at OX ⊢
  have hgOX' := Nat.le_of_eq hgOX
  replace hgOX := Nat.le_of_eq hgOX.symm
  have iOX : ∀ g, (Value.slice (some ⟨gOX, 0, none⟩) L2.length L2.length).ownBlock = some g → wd6.heap.size ≤ g ∧ g < wd7.heap.size := fun g e => by have := OX.lt g e; omega
  have swd7 := kq.size
  have I := I.below kq
  have JW := JW.below kq
  have NX := NX.below kq (by omega)
  have A0 := A0.below kq A0.lt
  have AW := AW.below kq AW.lt
  have AX := AX.below kq AX.lt
  have V2 := V2.below kq (V2.lt ouEnc_len (by omega))
  have BW := BW.trans (kq.mono BW.size)
  clear kq
  have JzX := NX.m.in_ KzX
  have cc := AX
  obtain ⟨m0_0, m0_1, m0_2, m0_3, m0_4, m0_5, m0_6, m0_7, m0_8, m0_9⟩ := cc
  go_wp2_with fail
  go_at_call 24
  clear m0_0 m0_1 m0_2 m0_3 m0_4 m0_5 m0_6 m0_7 m0_8 m0_9
  refine (acceptI zX n1 (some ⟨gOX, 0, none⟩) L2.length L2 wd7 (JzX.v KzX) KzX.g KzX.s OX.view.2 (fun e => by cases e) hl2).mono ?_
  rintro e wd8 ⟨zG, midG, rfl, pG, NG, kq⟩
  have pG : zG.p = B := by rw [pG, pzX.out, hB.out]
  have KG : BxSm zG := accX_sm K (pG.trans hB.out)
  replace pG : Hid _ := pG
  have swd8 := kq.size
  have I := I.below kq
  have JW := JW.below kq
  have NX := NX.below kq (by omega)
  have A0 := A0.below kq A0.lt
  have AW := AW.below kq AW.lt
  have AX := AX.below kq AX.lt
  have V2 := V2.below kq (V2.lt ouEnc_len (by omega))
  have OX := OX.later kq
  have BW := BW.trans (kq.mono BW.size)
  clear kq
  obtain ⟨hG, ehG⟩ : ∃ h_, h_ = wd8.heap.size := ⟨_, rfl⟩
  rw [← ehG] at NG
  have ehG' := Nat.le_of_eq ehG
  replace ehG := Nat.le_of_eq ehG.symm
  obtain ⟨lG, elG⟩ : ∃ h_, h_ = wd7.heap.size := ⟨_, rfl⟩
  rw [← elG] at NG
  have elG' := Nat.le_of_eq elG
  replace elG := Nat.le_of_eq elG.symm
  have lmG := NG.lm
  have mhG := NG.mh
  obtain ⟨wd9, hwd9⟩ : ∃ y_, y_ = wd8.alloc (Obj.cells #[.int .i64 zG.id, .int .i64 zG.po, .int .i64 zG.rg.ep, .int .i64 zG.rg.ow, .int .i64 zG.rg.pa, .slice zG.aT zG.two.length zG.cT, .slice zG.aN zG.net.length zG.cN, .slice zG.aG zG.ga.length zG.cG, .slice zG.aL zG.ln.length zG.cL, .slice zG.aS zG.sd.length zG.cS] 55) := ⟨_, rfl⟩
  have AG : BxAt wd9 wd8.heap.size zG := by rw [hwd9]; exact BxAt.new wd8 _ _
  have kq : Below wd8.heap.size wd8 wd9 := by rw [hwd9]; exact below_new _
  have lwd9 := AG.lt
  have swd9 := kq.size
  have I := I.below kq
  have JW := JW.below kq
  have NX := NX.below kq (by omega)
  have NG := NG.below kq (by omega)
  have A0 := A0.below kq A0.lt
  have AW := AW.below kq AW.lt
  have AX := AX.below kq AX.lt
  have V2 := V2.below kq (V2.lt ouEnc_len (by omega))
  have OX := OX.later kq
  have BW := BW.trans (kq.mono BW.size)
  clear kq
  go_upto_region 12 with fail
  rw [← hwd9]
  clear hwd9
  clear JzX
  have cc := AG
  obtain ⟨m0_0, m0_1, m0_2, m0_3, m0_4, m0_5, m0_6, m0_7, m0_8, m0_9⟩ := cc
  have cc := AW
  obtain ⟨m1_0, m1_1, m1_2, m1_3, m1_4, m1_5, m1_6, m1_7, m1_8, m1_9⟩ := cc
  go_wp2_with fail
  go_at_call 25
  clear m0_0 m0_1 m0_2 m0_3 m0_4 m0_5 m0_6 m0_7 m0_8 m0_9 m1_0 m1_1 m1_2 m1_3 m1_4 m1_5 m1_6 m1_7 m1_8 m1_9
  refine (bxEq zG zW wd9 (NG.in_ KG) JW KG (pW.out.trans pG.out.symm)).mono ?_
  rintro e wd10 ⟨rfl, kq⟩
  have swd10 := kq.size
  have I := I.below kq
  have JW := JW.below kq
  have NX := NX.below kq (by omega)
  have NG := NG.below kq (by omega)
  have A0 := A0.below kq A0.lt
  have AW := AW.below kq AW.lt
  have AX := AX.below kq AX.lt
  have AG := AG.below kq AG.lt
  have V2 := V2.below kq (V2.lt ouEnc_len (by omega))
  have OX := OX.later kq
  have BW := BW.trans (kq.mono BW.size)
  clear kq
  have JzX := NX.m.in_ KzX
  go_upto_region 14 with fail
  refine wp_region_held (S := fun Y => Below wd10.heap.size wd10 Y) (by kernel_rfl) ?_
  change wpAnyH _ _ _ _ _ _ _ _ (World.drew _)
  have hb0 : Below wd10.heap.size wd10 wd10.drew := (Below.refl _ _).drew
  obtain ⟨u0, hy0⟩ : ∃ y_, y_ = wd10.drew := ⟨_, rfl⟩
  rw [← hy0] at hb0 ⊢
  clear hy0
  refine takeW 0 44 (.agg #[.int .i64 zX.id, .int .i64 zX.po, .int .i64 zX.rg.ep, .int .i64 zX.rg.ow, .int .i64 zX.rg.pa, .slice zX.aT zX.two.length zX.cT, .slice zX.aN zX.net.length zX.cN, .slice zX.aG zX.ga.length zX.cG, .slice zX.aL zX.ln.length zX.cL, .slice zX.aS zX.sd.length zX.cS]) rfl rfl (by kernel_rfl) (by kernel_rfl) (by kernel_rfl) (fun _ _ _ h => h) (by kernel_rfl) (by (intro Y hSw; obtain ⟨X0, X1, X2, X3, X4, X5, X6, X7, X8, X9⟩ := AX.below hSw AX.lt; go_simp)) (by assumption) ?_
  simp only [List.set_cons_zero, List.set_cons_succ]
  refine takeW 1 45 (.agg #[.int .i64 x0.id, .int .i64 x0.po, .int .i64 x0.rg.ep, .int .i64 x0.rg.ow, .int .i64 x0.rg.pa, .slice x0.aT x0.two.length x0.cT, .slice x0.aN x0.net.length x0.cN, .slice x0.aG x0.ga.length x0.cG, .slice x0.aL x0.ln.length x0.cL, .slice x0.aS x0.sd.length x0.cS]) rfl rfl (by kernel_rfl) (by kernel_rfl) (by kernel_rfl) (fun _ _ _ h => h) (by kernel_rfl) (by (intro Y hSw; obtain ⟨X0, X1, X2, X3, X4, X5, X6, X7, X8, X9⟩ := A0.below hSw A0.lt; go_simp)) (by assumption) ?_
  simp only [List.set_cons_zero, List.set_cons_succ]
  refine wpAnyH_all (rs := [2]) (by kernel_rfl) (by simp) ?_
  intro i hi; obtain rfl : i = 2 := by simpa using hi
  refine wpOp_step rfl (fun Kz hKz => ?_)
  rw [if_pos (by kernel_rfl)]
  go_simp
  go_at_call 22
  refine (bxTo x0 u0 (I.below hb0) K).mono ?_
  rintro e u1 ⟨xz, rfl, pz, Mz, kq⟩
  have hb1 : Below wd10.heap.size wd10 u1 := hb0.trans (kq.mono hb0.size)
  clear kq
  refine hKz _ _ ⟨hb1, ?_⟩
  clear hKz Kz hi
  refine wpAnyH_all (rs := [3]) (by kernel_rfl) (by simp) ?_
  intro i hi; obtain rfl : i = 3 := by simpa using hi
  refine wpOp_step rfl (fun Kz hKz => ?_)
  rw [if_pos (by kernel_rfl)]
  go_simp
  go_at_call 25
  refine (bxEq zX xz u1 (JzX.below hb1) (Mz.in_ (K.of pz)) KzX (pz.trans pzX.out.symm)).mono ?_
  rintro e u2 ⟨rfl, kq⟩
  have hb2 : Below wd10.heap.size wd10 u2 := hb1.trans (kq.mono hb1.size)
  clear kq
  refine hKz _ _ ⟨hb2, ?_⟩
  clear hKz Kz hi
  refine takeW 4 48 (.bool false) rfl rfl (by kernel_rfl) (by kernel_rfl) (by kernel_rfl) (fun _ _ _ h => h) (by kernel_rfl) (by (intro w hSw; go_simp)) (by assumption) ?_
  simp only [List.set_cons_zero, List.set_cons_succ]
  refine wpAnyH_done (by kernel_rfl) ?_ _
  have su2 := hb2.size
  have I := I.below hb2
  have JW := JW.below hb2
  have NX := NX.below hb2 (by omega)
  have NG := NG.below hb2 (by omega)
  have A0 := A0.below hb2 A0.lt
  have AW := AW.below hb2 AW.lt
  have AX := AX.below hb2 AX.lt
  have AG := AG.below hb2 AG.lt
  have V2 := V2.below hb2 (V2.lt ouEnc_len (by omega))
  have OX := OX.later hb2
  have BW := BW.trans (hb2.mono BW.size)
  clear hb2
  clear hb0 hb1 Mz pz
  clear JzX
  go_wp2_with fail
  go_at_call 23
  refine (ouToS ad2 cap2 L2 u2 V2 hl2).mono ?_
  rintro e wd11 ⟨rfl, O2, kq⟩
  obtain ⟨gO2, hgO2⟩ : ∃ q, q = u2.heap.size := ⟨_, rfl⟩
  rw [← hgO2] at O2 ⊢
  have hgO2' := Nat.le_of_eq hgO2
  replace hgO2 := Nat.le_of_eq hgO2.symm
  have iO2 : ∀ g, (Value.slice (some ⟨gO2, 0, none⟩) L2.length L2.length).ownBlock = some g → u2.heap.size ≤ g ∧ g < wd11.heap.size := fun g e => by have := O2.lt g e; omega
  have swd11 := kq.size
  have I := I.below kq
  have JW := JW.below kq
  have NX := NX.below kq (by omega)
  have NG := NG.below kq (by omega)
  have A0 := A0.below kq A0.lt
  have AW := AW.below kq AW.lt
  have AX := AX.below kq AX.lt
  have AG := AG.below kq AG.lt
  have V2 := V2.below kq (V2.lt ouEnc_len (by omega))
  have OX := OX.later kq
  have BW := BW.trans (kq.mono BW.size)
  clear kq
  go_wp2_with fail
  go_at_call 26
  refine (ouEqS (some ⟨gOX, 0, none⟩) (some ⟨gO2, 0, none⟩) L2.length L2.length L2 wd11 OX.view.2 O2.view.2 hl2).mono ?_
  rintro e wd12 ⟨rfl, kq⟩
  have swd12 := kq.size
  have I := I.below kq
  have JW := JW.below kq
  have NX := NX.below kq (by omega)
  have NG := NG.below kq (by omega)
  have A0 := A0.below kq A0.lt
  have AW := AW.below kq AW.lt
  have AX := AX.below kq AX.lt
  have AG := AG.below kq AG.lt
  have V2 := V2.below kq (V2.lt ouEnc_len (by omega))
  have OX := OX.later kq
  have O2 := O2.later kq
  have BW := BW.trans (kq.mono BW.size)
  clear kq
  clear O2 iO2
  have cc := AX
  obtain ⟨m0_0, m0_1, m0_2, m0_3, m0_4, m0_5, m0_6, m0_7, m0_8, m0_9⟩ := cc
  go_wp2_with fail
  go_at_call 27
  clear m0_0 m0_1 m0_2 m0_3 m0_4 m0_5 m0_6 m0_7 m0_8 m0_9
  refine (bxMark zX lX midX hX wd12 NX KzX (by omega)).mono ?_
  rintro e wd13 ⟨rfl, NMX, kr⟩
  have swd13 := kr.size
  have V2 := V2.carry (fun a e p => kr.block _ (V2.lt ouEnc_len (by omega) a e p) (by have := vb a e p; omega))
  have OX := OX.keep (fun g' e' => kr.block g' (OX.lt g' e').2 (by have := iOX _ e'; omega))
  have A0 := A0.keep (kr.block _ A0.lt (by omega))
  have AW := AW.keep (kr.block _ AW.lt (by omega))
  have AX := AX.keep (kr.block _ AX.lt (by omega))
  have AG := AG.keep (kr.block _ AG.lt (by omega))
  have I := I.kept LI (fun g hg => kr.block g (by omega) (by omega))
  have JW := JW.kept LW (fun g hg => kr.block g (by omega) (by omega))
  have NG := NG.keep (fun g p q => kr.block g (by omega) (by omega))
  have BW := BW.trans (kr.below (by omega) |>.mono (by omega))
  clear kr
  clear NX NMX
  have hkX := k_le KzX
  have hkU : kE zX ≤ 100000000 := by have := KzX.s; unfold kE; omega
  obtain ⟨k1, hk1⟩ : ∃ m, m = kE zX := ⟨_, rfl⟩
  rw [← hk1] at hkX hkU ⊢
  have k10 : 0 ≤ k1 := by omega
  clear hk1 hkX
  go_wp2_with fail
  go_at_call 28
  refine (ouMark (some ⟨gOX, 0, none⟩) L2.length k1 _ L2 wd13 OX hl2 (by omega) (by omega)).mono ?_
  rintro e wd14 ⟨rfl, OX', gq⟩
  have swd14 := gq.size
  have V2 := V2.carry (fun a e p => gq.block _ (V2.lt ouEnc_len (by omega) a e p) (fun e2 => by have := iOX _ e2.symm; have := vb a e p; omega))
  have A0 := A0.keep (gq.block _ A0.lt (fun e2 => by have := iOX _ e2.symm; omega))
  have AW := AW.keep (gq.block _ AW.lt (fun e2 => by have := iOX _ e2.symm; omega))
  have AG := AG.keep (gq.block _ AG.lt (fun e2 => by have := iOX _ e2.symm; omega))
  have I := I.kept LI (fun g hg => gq.block g (by omega) (fun e2 => by have := iOX _ e2.symm; omega))
  have JW := JW.kept LW (fun g hg => gq.block g (by omega) (fun e2 => by have := iOX _ e2.symm; omega))
  have NG := NG.keep (fun g p q => gq.block g (by omega) (fun e2 => by have := iOX _ e2.symm; omega))
  have BW := BW.grown gq BW.size (fun g' e => by have := iOX _ e; omega)
  clear gq
  clear OX OX'
  obtain ⟨k2, hk2⟩ : ∃ m, m = k1 + 8 * (L2.length : Int) := ⟨_, rfl⟩
  rw [← hk2]
  have k20 : ¬ k2 < 0 := by omega
  have k21 : decide (k2 < 0) = false := decide_eq_false k20
  clear hk2
  have cc := AG
  obtain ⟨m0_0, m0_1, m0_2, m0_3, m0_4, m0_5, m0_6, m0_7, m0_8, m0_9⟩ := cc
  have cc := AW
  obtain ⟨m1_0, m1_1, m1_2, m1_3, m1_4, m1_5, m1_6, m1_7, m1_8, m1_9⟩ := cc
  go_wp2_with fail
  go_at_call 25
  clear m0_0 m0_1 m0_2 m0_3 m0_4 m0_5 m0_6 m0_7 m0_8 m0_9 m1_0 m1_1 m1_2 m1_3 m1_4 m1_5 m1_6 m1_7 m1_8 m1_9
  refine (bxEq zG zW wd14 (NG.in_ KG) JW KG (pW.out.trans pG.out.symm)).mono ?_
  rintro e wd15 ⟨rfl, kq⟩
  have swd15 := kq.size
  have I := I.below kq
  have JW := JW.below kq
  have NG := NG.below kq (by omega)
  have A0 := A0.below kq A0.lt
  have AW := AW.below kq AW.lt
  have AG := AG.below kq AG.lt
  have V2 := V2.below kq (V2.lt ouEnc_len (by omega))
  have BW := BW.trans (kq.mono BW.size)
  clear kq
  have cc := AG
  obtain ⟨m0_0, m0_1, m0_2, m0_3, m0_4, m0_5, m0_6, m0_7, m0_8, m0_9⟩ := cc
  go_wp2_with fail
  go_at_call 27
  clear m0_0 m0_1 m0_2 m0_3 m0_4 m0_5 m0_6 m0_7 m0_8 m0_9
  refine (bxMarkP zG lG midG hG wd15 NG KG (by omega)).mono ?_
  rintro e wd16 ⟨rfl, NM, kr⟩
  have swd16 := kr.size
  have V2 := V2.carry (fun a e p => kr.block _ (V2.lt ouEnc_len (by omega) a e p) (by have := vb a e p; omega))
  have A0 := A0.keep (kr.block _ A0.lt (by omega))
  have AW := AW.keep (kr.block _ AW.lt (by omega))
  have AG := AG.keep (kr.block _ AG.lt (by omega))
  have I := I.kept LI (fun g hg => kr.block g (by omega) (by omega))
  have JW := JW.kept LW (fun g hg => kr.block g (by omega) (by omega))
  have BW := BW.trans (kr.below (by omega) |>.mono (by omega))
  clear kr
  clear NG
  have hkE := k_le KG
  obtain ⟨m, hm⟩ : ∃ m, m = kE zG := ⟨_, rfl⟩
  rw [← hm] at hkE ⊢
  have m0 : ¬ m < 0 := by omega
  have m1 : decide (m < 0) = false := decide_eq_false m0
  replace hm : Hid _ := hm
  clear hkE
  have cc := AG
  obtain ⟨m0_0, m0_1, m0_2, m0_3, m0_4, m0_5, m0_6, m0_7, m0_8, m0_9⟩ := cc
  go_wp2_with fail
  go_at_call 29
  clear m0_0 m0_1 m0_2 m0_3 m0_4 m0_5 m0_6 m0_7 m0_8 m0_9
  refine (bxHeld zG wd16 (NM.in_ KG.mk_) KG).mono ?_
  rintro e wd17 ⟨rfl, kq⟩
  have swd17 := kq.size
  have I := I.below kq
  have JW := JW.below kq
  have NM := NM.below kq (by omega)
  have A0 := A0.below kq A0.lt
  have AW := AW.below kq AW.lt
  have AG := AG.below kq AG.lt
  have V2 := V2.below kq (V2.lt ouEnc_len (by omega))
  have BW := BW.trans (kq.mono BW.size)
  clear kq
  rw [← hm.out]
  have cc := A0
  obtain ⟨m0_0, m0_1, m0_2, m0_3, m0_4, m0_5, m0_6, m0_7, m0_8, m0_9⟩ := cc
  go_wp2_with fail
  go_at_call 22
  clear m0_0 m0_1 m0_2 m0_3 m0_4 m0_5 m0_6 m0_7 m0_8 m0_9
  refine (bxTo x0 wd17 I K).mono ?_
  rintro e wd18 ⟨z3, rfl, pz3, Mz3, kq⟩
  have swd18 := kq.size
  have I := I.below kq
  have JW := JW.below kq
  have NM := NM.below kq (by omega)
  have A0 := A0.below kq A0.lt
  have AW := AW.below kq AW.lt
  have AG := AG.below kq AG.lt
  have V2 := V2.below kq (V2.lt ouEnc_len (by omega))
  have BW := BW.trans (kq.mono BW.size)
  clear kq
  have Kz3 := K.of pz3
  have Jz3 := Mz3.in_ Kz3
  replace pz3 : Hid _ := pz3
  obtain ⟨hz3, ehz3⟩ : ∃ h_, h_ = wd18.heap.size := ⟨_, rfl⟩
  rw [← ehz3] at Mz3
  have ehz3 := Nat.le_of_eq ehz3
  go_wp2_with fail
  go_at_call 23
  refine (ouToS ad2 cap2 L2 wd18 V2 hl2).mono ?_
  rintro e wd19 ⟨rfl, O3, kq⟩
  obtain ⟨gO3, hgO3⟩ : ∃ q, q = wd18.heap.size := ⟨_, rfl⟩
  rw [← hgO3] at O3 ⊢
  have hgO3' := Nat.le_of_eq hgO3
  replace hgO3 := Nat.le_of_eq hgO3.symm
  have iO3 : ∀ g, (Value.slice (some ⟨gO3, 0, none⟩) L2.length L2.length).ownBlock = some g → wd18.heap.size ≤ g ∧ g < wd19.heap.size := fun g e => by have := O3.lt g e; omega
  have swd19 := kq.size
  have I := I.below kq
  have JW := JW.below kq
  have NM := NM.below kq (by omega)
  have A0 := A0.below kq A0.lt
  have AW := AW.below kq AW.lt
  have AG := AG.below kq AG.lt
  have Mz3 := Mz3.below kq (by omega)
  have Jz3 := Jz3.below kq
  have V2 := V2.below kq (V2.lt ouEnc_len (by omega))
  have BW := BW.trans (kq.mono BW.size)
  clear kq
  go_wp2_with fail
  go_at_call 24
  refine (acceptI z3 n1 (some ⟨gO3, 0, none⟩) L2.length L2 wd19 (Jz3.v Kz3) Kz3.g Kz3.s O3.view.2 (fun e => by cases e) hl2).mono ?_
  rintro e wd20 ⟨zH, midH, rfl, pH, NH, kq⟩
  have pH : zH.p = B := by rw [pH, pz3.out, hB.out]
  have KH : BxSm zH := accX_sm K (pH.trans hB.out)
  replace pH : Hid _ := pH
  have swd20 := kq.size
  have I := I.below kq
  have JW := JW.below kq
  have NM := NM.below kq (by omega)
  have A0 := A0.below kq A0.lt
  have AW := AW.below kq AW.lt
  have AG := AG.below kq AG.lt
  have Mz3 := Mz3.below kq (by omega)
  have Jz3 := Jz3.below kq
  have V2 := V2.below kq (V2.lt ouEnc_len (by omega))
  have O3 := O3.later kq
  have BW := BW.trans (kq.mono BW.size)
  clear kq
  obtain ⟨hH, ehH⟩ : ∃ h_, h_ = wd20.heap.size := ⟨_, rfl⟩
  rw [← ehH] at NH
  have ehH' := Nat.le_of_eq ehH
  replace ehH := Nat.le_of_eq ehH.symm
  obtain ⟨lH, elH⟩ : ∃ h_, h_ = wd19.heap.size := ⟨_, rfl⟩
  rw [← elH] at NH
  have elH' := Nat.le_of_eq elH
  replace elH := Nat.le_of_eq elH.symm
  have lmH := NH.lm
  have mhH := NH.mh
  obtain ⟨wd21, hwd21⟩ : ∃ y_, y_ = wd20.alloc (Obj.cells #[.int .i64 zH.id, .int .i64 zH.po, .int .i64 zH.rg.ep, .int .i64 zH.rg.ow, .int .i64 zH.rg.pa, .slice zH.aT zH.two.length zH.cT, .slice zH.aN zH.net.length zH.cN, .slice zH.aG zH.ga.length zH.cG, .slice zH.aL zH.ln.length zH.cL, .slice zH.aS zH.sd.length zH.cS] 55) := ⟨_, rfl⟩
  have AH : BxAt wd21 wd20.heap.size zH := by rw [hwd21]; exact BxAt.new wd20 _ _
  have kq : Below wd20.heap.size wd20 wd21 := by rw [hwd21]; exact below_new _
  have lwd21 := AH.lt
  have swd21 := kq.size
  have I := I.below kq
  have JW := JW.below kq
  have NM := NM.below kq (by omega)
  have NH := NH.below kq (by omega)
  have A0 := A0.below kq A0.lt
  have AW := AW.below kq AW.lt
  have AG := AG.below kq AG.lt
  have Mz3 := Mz3.below kq (by omega)
  have Jz3 := Jz3.below kq
  have V2 := V2.below kq (V2.lt ouEnc_len (by omega))
  have O3 := O3.later kq
  have BW := BW.trans (kq.mono BW.size)
  clear kq
  go_upto_region 32 with fail
  rw [← hwd21]
  clear hwd21
  clear Mz3 Jz3 O3 iO3
  have cc := AH
  obtain ⟨m0_0, m0_1, m0_2, m0_3, m0_4, m0_5, m0_6, m0_7, m0_8, m0_9⟩ := cc
  have cc := AW
  obtain ⟨m1_0, m1_1, m1_2, m1_3, m1_4, m1_5, m1_6, m1_7, m1_8, m1_9⟩ := cc
  go_wp2_with fail
  go_at_call 25
  clear m0_0 m0_1 m0_2 m0_3 m0_4 m0_5 m0_6 m0_7 m0_8 m0_9 m1_0 m1_1 m1_2 m1_3 m1_4 m1_5 m1_6 m1_7 m1_8 m1_9
  refine (bxEq zH zW wd21 (NH.in_ KH) JW KH (pW.out.trans pH.out.symm)).mono ?_
  rintro e wd22 ⟨rfl, kq⟩
  have swd22 := kq.size
  have I := I.below kq
  have JW := JW.below kq
  have NM := NM.below kq (by omega)
  have NH := NH.below kq (by omega)
  have A0 := A0.below kq A0.lt
  have AW := AW.below kq AW.lt
  have AG := AG.below kq AG.lt
  have AH := AH.below kq AH.lt
  have V2 := V2.below kq (V2.lt ouEnc_len (by omega))
  have BW := BW.trans (kq.mono BW.size)
  clear kq
  have cc := AG
  obtain ⟨m0_0, m0_1, m0_2, m0_3, m0_4, m0_5, m0_6, m0_7, m0_8, m0_9⟩ := cc
  go_wp2_with fail
  go_at_call 29
  clear m0_0 m0_1 m0_2 m0_3 m0_4 m0_5 m0_6 m0_7 m0_8 m0_9
  refine (bxHeld zG wd22 (NM.in_ KG.mk_) KG).mono ?_
  rintro e wd23 ⟨rfl, kq⟩
  have swd23 := kq.size
  have I := I.below kq
  have JW := JW.below kq
  have NM := NM.below kq (by omega)
  have NH := NH.below kq (by omega)
  have A0 := A0.below kq A0.lt
  have AW := AW.below kq AW.lt
  have AG := AG.below kq AG.lt
  have AH := AH.below kq AH.lt
  have V2 := V2.below kq (V2.lt ouEnc_len (by omega))
  have BW := BW.trans (kq.mono BW.size)
  clear kq
  rw [← hm.out]
  go_wp2
  go_ret
  exact ⟨rfl, BW⟩


set_option maxRecDepth 100000 in
theorem lifted (os : Os) (started : os.Started) (H : Type) (enc : TypeId × Value → H) :
    ReturnsInHanded {} Tryz.checked os 4 .any (Rows.fnExactAcceptSpec.pre6 enc Tryz.prog Tryz.f4 Rows.fnExactAcceptRow.domain false) (Rows.fnExactAcceptSpec.post enc Tryz.prog Tryz.f4 false true false false) := by
  refine returnsInHanded_of_change (C := Tryz.checked) own started (by kernel_rfl) Tryz.func4
    (ChangeSpec.witness6 (enc := enc) (C := Tryz.checked) false ⟨#[], #[.agg #[.int .i64 0, .int .i64 0, .int .i64 0, .int .i64 0, .int .i64 0, .slice none 0 0, .slice none 0 0, .slice none 0 0, .slice none 0 0, .slice none 0 0], .int .i64 0, .slice none 0 0], []⟩ 8 (by kernel_rfl) (by kernel_rfl) (by kernel_rfl) (by kernel_rfl)) ?_
  intro W base args ds gs before hval0 hW hcnd _
  have hval : ∀ (j : Nat) t v, Tryz.f4.params[j]? = some t → args[j]? = some v → Value.okWide Tryz.prog W .any base t v := hval0
  have hW' := hW
  obtain ⟨p, q, hA0, hV, rfl, hfz, hnd⟩ := hW
  have hA : DataW.TrodAll enc Tryz.prog W 0 (fun _ => true) true Tryz.f4.params.toList args.toList ds p := hA0
  rw [Tryz.params4] at hA hval
  obtain ⟨v0, vs0, d0, ds0, p0, q0, hargs, rfl, rfl, h0, r0⟩ := trodAll_cons hA
  obtain ⟨v1, vs1, d1, ds1, p1, q1, rfl, rfl, rfl, h1, r1⟩ := trodAll_cons r0
  obtain ⟨v2, vs2, d2, ds2, p2, q2, rfl, rfl, rfl, h2, r2⟩ := trodAll_cons r1
  obtain ⟨rfl, rfl, rfl⟩ := trodAll_nil r2
  obtain rfl : args = #[v0, v1, v2] := by cases args; simp_all
  obtain ⟨rfl, rfl⟩ := trodVars_none hV
  obtain ⟨x0, rfl, I0⟩ := bxIn_open (hval 0 48 v0 rfl rfl) h0
  have lt0 : ∀ x ∈ p0, x.block < W.heap.size := by obtain ⟨m, hm⟩ := h0; exact DataW.trod_lt m _ _ _ hm
  obtain ⟨n1, rfl, I1⟩ := intIn_open (hval 1 3 v1 rfl rfl) h1
  have lt1 : ∀ x ∈ p1, x.block < W.heap.size := by obtain ⟨m, hm⟩ := h1; exact DataW.trod_lt m _ _ _ hm
  obtain ⟨ad2, cap2, L2, rfl, I2⟩ := ousIn_open (hval 2 46 v2 rfl rfl) h2
  have lt2 : ∀ x ∈ p2, x.block < W.heap.size := by obtain ⟨m, hm⟩ := h2; exact DataW.trod_lt m _ _ _ hm
  clear hA0 hval0
  refine (walk x0 n1 ad2 cap2 L2 W I0 I1 I2).mono fun e W' ⟨he, bel⟩ => ?_
  subst he
  exact ⟨_, rfl, _, _, _, [], _, [], hW', trodAll_mk1 (shut_bool Tryz.underlying4 _), (trodAll_cons_mk (Below.trod laidOut (by kernel_rfl) (of_decide_eq_true (by kernel_rfl)) h0 bel lt0) (trodAll_cons_mk (Below.trod laidOut (by kernel_rfl) (of_decide_eq_true (by kernel_rfl)) h1 bel lt1) (trodAll_cons_mk (Below.trod laidOut (by kernel_rfl) (of_decide_eq_true (by kernel_rfl)) h2 bel lt2) trodAll_mk0))), rfl, bel.frame _, fun h => by cases h⟩

theorem over : Rows.fnExactAcceptRow.holds Tryz.pinned (OpenSpec.ofChange Rows.fnExactAcceptSpec) :=
  OpenClaim.holds_of_wide 4 Tryz.f4 rfl rfl rfl rfl rfl rfl rfl ⟨rfl, rfl, rfl, rfl, rfl⟩ rfl rfl rfl rfl rfl (by kernel_rfl) Tryz.func4 (by kernel_rfl)
    (of_decide_eq_true (by kernel_rfl)) (by unfold Func.isWrapper; first | (rw [if_pos (by decide +kernel)]; kernel_rfl) | (rw [if_neg (by decide +kernel)]; exact ⟨rfl, rfl⟩))
    (fun os started H enc _ => lifted os started H enc)

theorem proved : Rows.FnExactAcceptSaid := over
end Go.Proofs.YtijhpfccjaaalaaGreat.fnExactAccept
namespace Go.Proofs.YtijhpfccjaaalaaGreat
theorem accept_holds : Rows.FnExactAcceptSaid := fnExactAccept.proved
#print axioms accept_holds
end Go.Proofs.YtijhpfccjaaalaaGreat
