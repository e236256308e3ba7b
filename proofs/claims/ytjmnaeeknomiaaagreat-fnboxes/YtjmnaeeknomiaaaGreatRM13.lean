import Derived.Test.YtjmnaeeknomiaaaGreatRM14
import Derived.Test.YtjmnaeeknomiaaaGreatRM20
import Derived.Test.YtjmnaeeknomiaaaGreatRM23
namespace Go.Proofs.YtjmnaeeknomiaaaGreat
open Go.ChangeShapes Go.WideShapes Go.ChangeAt Go.RowKit
open Go.ChangeMaps (open_string shut_string)
set_option linter.unusedVariables false
set_option maxRecDepth 100000
set_option maxHeartbeats 32000000
set_option linter.unusedSimpArgs false
open Go.Proofs.Tryz
attribute [local go_sem] ji ja
theorem CC.keep {lo hi : Nat} {w w' : World} {v : Value} {Bs : List AD} (h : CC lo hi w v Bs) (k : ∀ g, lo ≤ g → g < hi → w'.heap[g]? = w.heap[g]?) : CC lo hi w' v Bs :=
  ⟨h.row.keep (fun g e => k g (h.row.lt g e).1 (h.rhi g e)), fun i hi => (h.nest i hi).keep (fun g e => k g ((h.nest i hi).lt g e).1 (h.nhi i hi g e)), h.rhi, h.nhi, h.apart, h.aparts⟩
theorem CC.below {lo hi B : Nat} {w w' : World} {v : Value} {Bs : List AD} (h : CC lo hi w v Bs) (k : Below B w w') (hB : hi ≤ B) : CC lo hi w' v Bs := h.keep fun g _ hg => k.block _ (by omega)
end Go.Proofs.YtjmnaeeknomiaaaGreat
namespace Go.Proofs.YtjmnaeeknomiaaaGreat
open Go.ChangeShapes Go.WideShapes Go.ChangeAt Go.RowKit
open Go.ChangeMaps (open_string shut_string)
set_option linter.unusedVariables false
set_option maxRecDepth 100000
set_option maxHeartbeats 32000000
set_option linter.unusedSimpArgs false
open Go.Proofs.Tryz
def Ei (Bs : List AD) : Nat → Nat
 | 0 => 0
 | j + 1 => Ei Bs j + (Bs.getD j AD.nil).m.lg.length
theorem IM (Bs : List AD) {i j : Nat} (h : i ≤ j) : Ei Bs i ≤ Ei Bs j := by
 induction h with
 | refl => exact Nat.le_refl _
 | step _ ih => exact Nat.le_trans ih (by show _ ≤ Ei Bs _ + _; omega)
theorem Ii (Bs : List AD) {k : Nat} (h : k < Bs.length) : (Bs.getD k AD.nil).m.lg.length ≤ Ei Bs Bs.length :=
 Nat.le_trans (by show _ ≤ Ei Bs k + (Bs.getD k AD.nil).m.lg.length; omega) (IM Bs (i := k + 1) h)
attribute [local go_sem] ji ja
structure Dj (w : World) (x : AG) : Prop where
 t : MV w x.aT x.two
 tm : x.two.length ≤ maxLen
 ts : ∀ i, i < x.two.length → (x.two.getD i AD.nil).m.lg.length ≤ maxLen
 tc : x.two.length ≤ x.cT
 tn : x.aT = none → x.cT = 0
 n : AH At w x.aN x.net
 nm : x.net.length ≤ maxLen
 nn : x.aN = none → x.cN = 0
 g : AH Az w x.aG x.ga
 gm : x.ga.length ≤ maxLen
 gn : x.aG = none → x.cG = 0
 i : AH AO w x.aL x.ln
 im : x.ln.length ≤ maxLen
 ic : x.aL = none → x.cL = 0
 s : AH Ag w x.aS x.sd
 sm : x.sd.length ≤ maxLen
 sn : x.aS = none → x.cS = 0
theorem Dj.below {w w' : World} {x : AG} (h : Dj w x) (k : Bw w w') : Dj w' x :=
 ⟨h.t.below k (Nat.le_refl _), h.tm, h.ts, h.tc, h.tn, h.n.below k (h.n.lt Be (by omega)), h.nm, h.nn, h.g.below k (h.g.lt Bj (by omega)), h.gm, h.gn, h.i.below k (h.i.lt AT (by omega)), h.im, h.ic, h.s.below k (h.s.lt BN (by omega)), h.sm, h.sn⟩
structure Ea (x : AG) : Prop where
 t : x.two.length ≤ 1048576
 l : Ei x.two x.two.length ≤ 1048576
 n : x.net.length ≤ 1048576
 g : x.ga.length ≤ 1048576
 i : x.ln.length ≤ 1048576
 s : x.sd.length ≤ 1048576
theorem Ea.ls {x : AG} (h : Ea x) : ∀ i, i < x.two.length → (x.two.getD i AD.nil).m.lg.length ≤ 1048576 := fun i hi => Nat.le_trans (Ii x.two hi) h.l
theorem Dj.v {w : World} {x : AG} (h : Dj w x) (k : Ea x) : BT w x :=
 ⟨h.t.row, h.t.nest, h.n, h.g, h.i, h.s, k.t, k.ls, k.n, k.g, k.i, k.s, h.tc⟩
structure Gl (lo hi : Nat) (w : World) (x : AG) : Prop where
 t : CC lo hi w (.slice x.aT x.two.length x.cT) x.two
 n : AB At 12 75 lo w (.slice x.aN x.net.length x.cN) x.net
 g : AB Az 1 4 lo w (.slice x.aG x.ga.length x.cG) x.ga
 i : AB AO 8 64 lo w (.slice x.aL x.ln.length x.cL) x.ln
 s : AB Ag 8 77 lo w (.slice x.aS x.sd.length x.cS) x.sd
 nh : ∀ b, (Value.slice x.aN x.net.length x.cN).ownBlock = some b → b < hi
 gh : ∀ b, (Value.slice x.aG x.ga.length x.cG).ownBlock = some b → b < hi
 ih : ∀ b, (Value.slice x.aL x.ln.length x.cL).ownBlock = some b → b < hi
 sh : ∀ b, (Value.slice x.aS x.sd.length x.cS).ownBlock = some b → b < hi
 ap : ∀ j, j < x.two.length → ∀ b, (x.two.getD j AD.nil).v.ownBlock = some b → (Value.slice x.aL x.ln.length x.cL).ownBlock ≠ some b
theorem Gl.in_ {lo hi : Nat} {w : World} {x : AG} (h : Gl lo hi w x) (k : Ea x) : Dj w x := by
 have hm : (1048576 : Nat) ≤ maxLen := by unfold maxLen; omega
 exact ⟨h.t.view.2, Nat.le_trans k.t hm, fun i hi => Nat.le_trans (k.ls i hi) hm, h.t.row.capM, fun e => EH (by have := h.t.row; rw [e] at this; exact this), h.n.view.2, Nat.le_trans k.n hm, fun e => EH (by have := h.n; rw [e] at this; exact this), h.g.view.2, Nat.le_trans k.g hm, fun e => EH (by have := h.g; rw [e] at this; exact this), h.i.view.2, Nat.le_trans k.i hm, fun e => EH (by have := h.i; rw [e] at this; exact this), h.s.view.2, Nat.le_trans k.s hm, fun e => EH (by have := h.s; rw [e] at this; exact this)⟩
end Go.Proofs.YtjmnaeeknomiaaaGreat
namespace Go.Proofs.YtjmnaeeknomiaaaGreat
open Go.ChangeShapes Go.WideShapes Go.ChangeAt Go.RowKit
open Go.ChangeMaps (open_string shut_string)
set_option linter.unusedVariables false
set_option maxRecDepth 100000
set_option maxHeartbeats 32000000
set_option linter.unusedSimpArgs false
open Go.Proofs.Tryz
structure Cx (lo mid hi : Nat) (w : World) (x : AG) : Prop where
 t : CC lo mid w (.slice x.aT x.two.length x.cT) x.two
 n : AB At 12 75 mid w (.slice x.aN x.net.length x.cN) x.net
 g : AB Az 1 4 mid w (.slice x.aG x.ga.length x.cG) x.ga
 i : AB AO 8 64 mid w (.slice x.aL x.ln.length x.cL) x.ln
 s : AB Ag 8 77 mid w (.slice x.aS x.sd.length x.cS) x.sd
 nh : ∀ b, (Value.slice x.aN x.net.length x.cN).ownBlock = some b → b < hi
 gh : ∀ b, (Value.slice x.aG x.ga.length x.cG).ownBlock = some b → b < hi
 ih : ∀ b, (Value.slice x.aL x.ln.length x.cL).ownBlock = some b → b < hi
 sh : ∀ b, (Value.slice x.aS x.sd.length x.cS).ownBlock = some b → b < hi
 lm : lo ≤ mid
 mh : mid ≤ hi
theorem Cx.m {lo mid hi : Nat} {w : World} {x : AG} (h : Cx lo mid hi w x) : Gl lo hi w x :=
 ⟨h.t.wide (Nat.le_refl _) h.mh, h.n.base h.lm, h.g.base h.lm, h.i.base h.lm, h.s.base h.lm, h.nh, h.gh, h.ih, h.sh, fun j hj b e e2 => by
  have h1 := h.t.nhi j hj b e
  have h2 := (h.i.lt b e2).1
  omega⟩
attribute [local go_sem] ji ja
def CE : List AD := [⟨⟨true, 1, 1, [], 0, 0, 0⟩, none, 0⟩, ⟨⟨true, 2, 0, [], 0, 0, 0⟩, none, 0⟩]
theorem AB.nilM {X : Type} {enc : X → List Value} {n : Nat} {T : TypeId} {base : Nat} {w : World} : AB enc n T base w (.slice none 0 0) ([] : List X) := ⟨by simp [Aa], .inl ⟨rfl, rfl⟩⟩
theorem HR (w : World) : CC w.heap.size (w.heap.size + 1) (w.alloc (Obj.cells #[.bool true, ji 1, ji 1, .slice none 0 0, ji 0, ji 0, ji 0, .bool true, ji 2, ji 0, .slice none 0 0, ji 0, ji 0, ji 0] 52)) (.slice (some (ja w.heap.size 0)) 2 2) CE := by
 have hn : ∀ i, i < CE.length → (CE.getD i AD.nil).v = .slice none 0 0 ∧ (CE.getD i AD.nil).m.lg = [] := fun i hi => by
  match i, hi with
  | 0, _ => exact ⟨rfl, rfl⟩
  | 1, _ => exact ⟨rfl, rfl⟩
 have hb : ∀ i, i < CE.length → ∀ g, (CE.getD i AD.nil).v.ownBlock ≠ some g := fun i hi g e => by
  rw [(hn i hi).1] at e;cases e
 refine ⟨⟨rfl, .inr ⟨w.heap.size, 2, #[.bool true, ji 1, ji 1, .slice none 0 0, ji 0, ji 0, ji 0, .bool true, ji 2, ji 0, .slice none 0 0, ji 0, ji 0, ji 0], rfl, Nat.le_refl _, CU w _, Nat.le_refl _, by unfold maxLen; omega, rfl, rfl⟩⟩, fun i hi => ?_, fun g e => ?_, fun i hi g e => absurd e (hb i hi g), fun i hi g h _ e => absurd e (hb i hi h), fun i j _ hj g h _ e => absurd e (hb j hj h)⟩
 ·
  rw [(hn i hi).1, (hn i hi).2];exact AB.nilM
 obtain rfl : w.heap.size = g := by simpa [Value.ownBlock] using e
 omega
theorem FC (id po : Int) : (AX id po).length ≤ 4 := by
 unfold AX;split
 ·
  next h =>
  unfold Aq at h;simp at h ⊢
  omega
 simp
theorem IK (id po : Int) : Aw (EK id po) = Aq id po := by
 cases h : Aq id po
 ·
  unfold Aw EK;simp [h]
 exact F6 h
def Dh (id po : Int) : Bx := if Aq id po then EK id po else AG.zero.p
theorem GL (id po : Int) (q : Nat) (a : Option Addr) (c : Nat) : AG.p ⟨id, po, ⟨1, 0, 0⟩, CE, some (ja q 0), 2, [], none, 0, BH (AX id po), a, c, [], none, 0, [], none, 0⟩ = EK id po := rfl
theorem FB (id po : Int) (q : Nat) (a : Option Addr) (c : Nat) : Ea ⟨id, po, ⟨1, 0, 0⟩, CE, some (ja q 0), 2, [], none, 0, BH (AX id po), a, c, [], none, 0, [], none, 0⟩ := by
 have h := FC id po;have hg : (BH (AX id po)).length ≤ 4 := by rw [Eb]; exact h
 refine ⟨?_, ?_, Nat.zero_le _, ?_, Nat.zero_le _, Nat.zero_le _⟩
 ·
  show (2 : Nat) ≤ _; omega
 ·
  show (0 : Nat) ≤ _; omega
 show (BH (AX id po)).length ≤ _; omega
theorem GC : Ea AG.zero := ⟨Nat.zero_le _, Nat.zero_le _, Nat.zero_le _, Nat.zero_le _, Nat.zero_le _, Nat.zero_le _⟩
theorem Hh {lo hi : Nat} {w : World} (h : lo ≤ hi) : Cx lo lo hi w AG.zero := by
 refine ⟨⟨AB.nilM, fun i hi => absurd hi (Nat.not_lt_zero _), fun g e => (by cases e), fun i hi => absurd hi (Nat.not_lt_zero _), fun i hi => absurd hi (Nat.not_lt_zero _), fun i j _ hj => absurd hj (Nat.not_lt_zero _)⟩, AB.nilM, AB.nilM, AB.nilM, AB.nilM, fun b e => (by cases e), fun b e => (by cases e), fun b e => (by cases e), fun b e => (by cases e), Nat.le_refl _, h⟩
end Go.Proofs.YtjmnaeeknomiaaaGreat
namespace Go.Proofs.YtjmnaeeknomiaaaGreat
open Go.ChangeShapes Go.WideShapes Go.ChangeAt Go.RowKit
open Go.ChangeMaps (open_string shut_string)
set_option linter.unusedVariables false
set_option maxRecDepth 100000
set_option maxHeartbeats 32000000
set_option linter.unusedSimpArgs false
open Go.Proofs.Tryz
attribute [local go_sem] ji ja bc
structure Hz (B : Nat) (x : AG) : Prop where
 t : ∀ a, x.aT = some a → 0 < x.two.length → B ≤ a.block
 l : ∀ i, i < x.two.length → ∀ a, (x.two.getD i AD.nil).ad = some a → 0 < (x.two.getD i AD.nil).m.lg.length → B ≤ a.block
 n : ∀ a, x.aN = some a → 0 < x.net.length → B ≤ a.block
 g : ∀ a, x.aG = some a → 0 < x.ga.length → B ≤ a.block
 i : ∀ a, x.aL = some a → 0 < x.ln.length → B ≤ a.block
 s : ∀ a, x.aS = some a → 0 < x.sd.length → B ≤ a.block
theorem Dj.keptN {w w' : World} {x : AG} {n : Nat} (h : Dj w x) (hin : Hz n x) (k : ∀ g, n ≤ g → w'.heap[g]? = w.heap[g]?) : Dj w' x :=
 ⟨⟨h.t.row.carry (fun a e p => k _ (hin.t a e p)), fun i hi => (h.t.nest i hi).carry (fun a e p => k _ (hin.l i hi a e p)), h.t.nil0⟩, h.tm, h.ts, h.tc, h.tn, h.n.carry (fun a e p => k _ (hin.n a e p)), h.nm, h.nn, h.g.carry (fun a e p => k _ (hin.g a e p)), h.gm, h.gn, h.i.carry (fun a e p => k _ (hin.i a e p)), h.im, h.ic, h.s.carry (fun a e p => k _ (hin.s a e p)), h.sm, h.sn⟩
theorem Hk (id po : Int) (w : World) :
  Calls prog 8 #[ji id, ji po] w fun e w' => ∃ x2 : AG, (e = .returned (.tuple #[.agg (bc x2), .bool (Aq id po)]) ∧ x2.p = Dh id po ∧ Ea x2) ∧ Dj w' x2 ∧ Bw w w' := by
 obtain ⟨y, hy, B0⟩ := AI w (Obj.cells #[ji 0, ji 0, ji 0, ji 0, ji 0, .slice none 0 0, .slice none 0 0, .slice none 0 0, .slice none 0 0, .slice none 0 0] 34);have Z : AN y w.heap.size AG.zero := by rw [hy]; refine ⟨?_, fun i => ?_⟩; constructor <;> simp [go_sem, AG.zero]; simp [go_sem]
 go_enter func8, ntmps8
 go_wp2_with fail
 go_at_call 14
 rw [← hy];clear hy;refine (FG id po y).mono ?_;rintro e u0 ⟨ad', cap', rfl, O', k0⟩;have Z := Z.below k0 Z.lt;have B1 := AE B0 k0;have s0 := k0.size;have zl := Z.lt;clear k0 B0;obtain ⟨u1, hu1, kk⟩ := AI u0 (Obj.cells #[ji (BJ id po), .slice ad' (AX id po).length cap'] 42);have BB : As u1 u0.heap.size (BJ id po) (.slice ad' (AX id po).length cap') := by rw [hu1]; exact As.new u0 _ _ _
 have Z := Z.below kk Z.lt;have O' := O'.later kk;have B2 := AE B1 kk;have s1 := BB.lt;clear kk B1;go_upto_region 2 with fail
 rw [← hu1];clear hu1;obtain ⟨qb, hqb⟩ := AC u0.heap.size;rw [← hqb] at BB s1 ⊢;replace hqb := Nat.le_of_eq hqb.symm;obtain ⟨bb0, bb1⟩ := _root_.id BB;go_wp2_with fail
 go_at_call 35
 clear bb0 bb1;refine (Il (BJ id po) ad' cap' (AX id po) u1 O'.view.2 (Nat.le_trans (FC id po) (by omega))).mono ?_;rintro e u2 ⟨aG, cG, rfl, OG, k2⟩;have lG : ∀ g, (Value.slice aG (BH (AX id po)).length cG).ownBlock = some g → g < u2.heap.size := fun g e => (OG.lt g e).2
 have Z := Z.below k2 Z.lt;have B3 := AE B2 k2;have s2 := k2.size;clear k2 B2 BB O';obtain ⟨u3, hu3, kk⟩ := AI u2 (Obj.cells #[ji id, ji po, ji 1, ji 0, ji 0, .slice none 0 0, .slice none 0 0, .slice aG (BH (AX id po)).length cG, .slice none 0 0, .slice none 0 0] 34);have Hb : AN u3 u2.heap.size ⟨id, po, ⟨1, 0, 0⟩, [], none, 0, [], none, 0, BH (AX id po), aG, cG, [], none, 0, [], none, 0⟩ := by rw [hu3]; refine ⟨?_, fun i => ?_⟩; constructor <;> simp [go_sem]; simp [go_sem]
 have Z := Z.below kk Z.lt;have OG := OG.later kk;have B4 := AE B3 kk;have s3 := Hb.lt;clear kk B3;go_upto_region 3 with fail
 rw [← hu3];clear hu3;obtain ⟨qh, hqh⟩ := AC u2.heap.size;rw [← hqh] at Hb s3 ⊢;have hqh1 := Nat.le_of_eq hqh;replace hqh := Nat.le_of_eq hqh.symm;have Hb3 := Hb;obtain ⟨u4, hu4⟩ := AC (u3.setCell (ja qh 5) (.slice (some (ja u3.heap.size 0)) 2 2));have Hc := Hb.sT CE (some (ja u3.heap.size 0)) 2 2 rfl;rw [← hu4] at Hc;have kp : ∀ k, k ≠ qh → u4.heap[k]? = u3.heap[k]? := fun k hk => by rw [hu4, AF hk]
 have Z := Z.keep (kp _ (by omega));have OG := OG.keep (fun g e => kp g (by have := lG g e; omega));have B5 : Bw w u4 := by rw [hu4]; exact B4.setCell (p := (ja qh 5)) (by show _ ≤ qh; omega) _
 have s45 : u4.heap.size = u3.heap.size := by rw [hu4]; simp
 obtain ⟨u5, hu5, kk⟩ := AI u4 (Obj.cells #[.bool true, ji 1, ji 1, .slice none 0 0, ji 0, ji 0, ji 0, .bool true, ji 2, ji 0, .slice none 0 0, ji 0, ji 0, ji 0] 52);have OT : CC u4.heap.size (u4.heap.size + 1) u5 (.slice (some (ja u4.heap.size 0)) 2 2) CE := by rw [hu5]; exact HR u4
 have Z := Z.below kk Z.lt;have Hc := Hc.below kk Hc.lt;have OG := OG.later kk;have B6 := AE B5 kk;have s4 : u4.heap.size < u5.heap.size := by rw [hu5]; simp
 rw [s45] at OT s4;replace s45 := Nat.le_of_eq s45;clear kk B4 kp Hb;obtain ⟨⟨h0, h1, h2, h3, h4, h5, h6, h7, h8, h9⟩, hf⟩ := Hb3;have hf5 := hf 5;clear hf;go_upto_region 4 with fail
 rw [← hu4, ← hu5];clear hu4 hu5 h0 h1 h2 h3 h4 h5 h6 h7 h8 h9 hf5 B5;obtain ⟨q2, hq2⟩ := AC u3.heap.size;rw [← hq2] at Hc OT s4 ⊢;replace hq2 := Nat.le_of_eq hq2.symm;have J : Dj u5 ⟨id, po, ⟨1, 0, 0⟩, CE, some (ja q2 0), 2, [], none, 0, BH (AX id po), aG, cG, [], none, 0, [], none, 0⟩ := by
  have hv := OT.view.2;exact ⟨hv, by show (2 : Nat) ≤ _; unfold maxLen; omega, fun i hi => Nat.le_trans ((FB id po q2 aG cG).ls i hi) (by unfold maxLen; omega), Nat.le_refl _, (fun e => by cases e), AH.nil, Nat.zero_le _, fun _ => rfl, OG.view.2, Nat.le_trans (FB id po q2 aG cG).g (by unfold maxLen; omega), fun e => EH (by have e1 : aG = none := e; have := OG; rw [e1] at this; exact this), AH.nil, Nat.zero_le _, fun _ => rfl, AH.nil, Nat.zero_le _, fun _ => rfl⟩
 have hap : Hz (w.heap.size + 1) ⟨id, po, ⟨1, 0, 0⟩, CE, some (ja q2 0), 2, [], none, 0, BH (AX id po), aG, cG, [], none, 0, [], none, 0⟩ := by
  refine ⟨fun a e _ => ?_, fun i hi a e _ => ?_, fun a e => (by cases e), fun a e p => ?_, fun a e => (by cases e), fun a e => (by cases e)⟩
  ·
   cases e; show _ ≤ q2; omega
  ·
   match i, hi, e with
   | 0, _, e => cases e
   | 1, _, e => cases e
  have e : aG = some a := e;have hg := OG.lt a.block (by rw [e]; rfl);omega
 obtain ⟨⟨h0, h1, h2, h3, h4, h5, h6, h7, h8, h9⟩, hf⟩ := _root_.id Hc;go_wp2_with fail
 go_at_call 17
 clear h0 h1 h2 h3 h4 h5 h6 h7 h8 h9 hf;refine (GV ⟨id, po, ⟨1, 0, 0⟩, CE, some (ja q2 0), 2, [], none, 0, BH (AX id po), aG, cG, [], none, 0, [], none, 0⟩ u5 (J.v (FB id po q2 aG cG))).mono ?_;rintro e u6 ⟨rfl, k6⟩;rw [GL, IK];have Z := Z.below k6 Z.lt;have Hc := Hc.below k6 Hc.lt;have J := J.below k6;have B7 := AE B6 k6;have s6 := k6.size;clear k6 B6 OT OG;cases h1 : Aq id po
 ·
  have hX : Hid (Dh id po = AG.zero.p) := by unfold Hid Dh; rw [h1]; rfl
  replace h1 : Hid _ := h1;obtain ⟨W9, hW9⟩ := AC ((((((((((u6.setCell (ja w.heap.size 0) (ji 0)).setCell (ja w.heap.size 1) (ji 0)).setCell (ja w.heap.size 2) (ji 0)).setCell (ja w.heap.size 3) (ji 0)).setCell (ja w.heap.size 4) (ji 0)).setCell (ja w.heap.size 5) (.slice none 0 0)).setCell (ja w.heap.size 6) (.slice none 0 0)).setCell (ja w.heap.size 7) (.slice none 0 0)).setCell (ja w.heap.size 8) (.slice none 0 0)).setCell (ja w.heap.size 9) (.slice none 0 0));have ZZ : AN W9 w.heap.size AG.zero := by rw [hW9]; exact Z.put AG.zero
  have kp : ∀ k, k ≠ w.heap.size → W9.heap[k]? = u6.heap[k]? := fun k hk => by rw [hW9, AF hk, AF hk, AF hk, AF hk, AF hk, AF hk, AF hk, AF hk, AF hk, AF hk]
  have B9 : Bw w W9 := by rw [hW9]; exact ((((((((((B7.setCell (p := (ja w.heap.size 0)) (Nat.le_refl _) _).setCell (p := (ja w.heap.size 1)) (Nat.le_refl _) _).setCell (p := (ja w.heap.size 2)) (Nat.le_refl _) _).setCell (p := (ja w.heap.size 3)) (Nat.le_refl _) _).setCell (p := (ja w.heap.size 4)) (Nat.le_refl _) _).setCell (p := (ja w.heap.size 5)) (Nat.le_refl _) _).setCell (p := (ja w.heap.size 6)) (Nat.le_refl _) _).setCell (p := (ja w.heap.size 7)) (Nat.le_refl _) _).setCell (p := (ja w.heap.size 8)) (Nat.le_refl _) _).setCell (p := (ja w.heap.size 9)) (Nat.le_refl _) _)
  have s9 : W9.heap.size = u6.heap.size := by rw [hW9]; simp
  have hM : Dj W9 AG.zero := ((Hh (lo := 0) (hi := 0) (w := W9) (Nat.le_refl _)).m).in_ GC;obtain ⟨⟨t0, t1, t2, t3, t4, t5, t6, t7, t8, t9⟩, tf⟩ := ZZ;clear tf;try dsimp only [AG.zero] at t0 t1 t2 t3 t4 t5 t6 t7 t8 t9
  try rw [show CE.length = 2 from rfl] at t5
  obtain ⟨⟨z0, z1, z2, z3, z4, z5, z6, z7, z8, z9⟩, zf⟩ := _root_.id Z;obtain ⟨e0, e1, e2, e3, e4, e5, e6, e7, e8, e9⟩ := CT zf;clear zf;go_wp2
  refine bodyPost_ret (v := .tuple #[.agg #[ji 0, ji 0, ji 0, ji 0, ji 0, .slice none 0 0, .slice none 0 0, .slice none 0 0, .slice none 0 0, .slice none 0 0], .bool false]) (by simp [results, results8, go_sem, *]) rfl ⟨AG.zero, ⟨by rw [h1.out]; rfl, hX.out.symm, GC⟩, ?_, ?_⟩
  ·
   rw [← hW9]; exact hM
  rw [← hW9]; exact B9
 have hX : Hid (Dh id po = EK id po) := by unfold Hid Dh; rw [h1]; rfl
 replace h1 : Hid _ := h1;obtain ⟨⟨c0, c1, c2, c3, c4, c5, c6, c7, c8, c9⟩, cf⟩ := _root_.id Hc;clear cf;rw [show CE.length = 2 from rfl] at c5;obtain ⟨W9, hW9⟩ := AC ((((((((((u6.setCell (ja w.heap.size 0) (ji id)).setCell (ja w.heap.size 1) (ji po)).setCell (ja w.heap.size 2) (ji 1)).setCell (ja w.heap.size 3) (ji 0)).setCell (ja w.heap.size 4) (ji 0)).setCell (ja w.heap.size 5) (.slice (some (ja q2 0)) 2 2)).setCell (ja w.heap.size 6) (.slice none 0 0)).setCell (ja w.heap.size 7) (.slice aG (BH (AX id po)).length cG)).setCell (ja w.heap.size 8) (.slice none 0 0)).setCell (ja w.heap.size 9) (.slice none 0 0));have ZZ : AN W9 w.heap.size ⟨id, po, ⟨1, 0, 0⟩, CE, some (ja q2 0), 2, [], none, 0, BH (AX id po), aG, cG, [], none, 0, [], none, 0⟩ := by rw [hW9]; exact Z.put ⟨id, po, ⟨1, 0, 0⟩, CE, some (ja q2 0), 2, [], none, 0, BH (AX id po), aG, cG, [], none, 0, [], none, 0⟩
 have kp : ∀ k, k ≠ w.heap.size → W9.heap[k]? = u6.heap[k]? := fun k hk => by rw [hW9, AF hk, AF hk, AF hk, AF hk, AF hk, AF hk, AF hk, AF hk, AF hk, AF hk]
 have B9 : Bw w W9 := by rw [hW9]; exact ((((((((((B7.setCell (p := (ja w.heap.size 0)) (Nat.le_refl _) _).setCell (p := (ja w.heap.size 1)) (Nat.le_refl _) _).setCell (p := (ja w.heap.size 2)) (Nat.le_refl _) _).setCell (p := (ja w.heap.size 3)) (Nat.le_refl _) _).setCell (p := (ja w.heap.size 4)) (Nat.le_refl _) _).setCell (p := (ja w.heap.size 5)) (Nat.le_refl _) _).setCell (p := (ja w.heap.size 6)) (Nat.le_refl _) _).setCell (p := (ja w.heap.size 7)) (Nat.le_refl _) _).setCell (p := (ja w.heap.size 8)) (Nat.le_refl _) _).setCell (p := (ja w.heap.size 9)) (Nat.le_refl _) _)
 have s9 : W9.heap.size = u6.heap.size := by rw [hW9]; simp
 have hM : Dj W9 ⟨id, po, ⟨1, 0, 0⟩, CE, some (ja q2 0), 2, [], none, 0, BH (AX id po), aG, cG, [], none, 0, [], none, 0⟩ := J.keptN hap (fun g hg => kp g (fun e => by omega));obtain ⟨⟨t0, t1, t2, t3, t4, t5, t6, t7, t8, t9⟩, tf⟩ := ZZ;clear tf;try dsimp only [AG.zero] at t0 t1 t2 t3 t4 t5 t6 t7 t8 t9
 try rw [show CE.length = 2 from rfl] at t5
 obtain ⟨⟨z0, z1, z2, z3, z4, z5, z6, z7, z8, z9⟩, zf⟩ := _root_.id Z;obtain ⟨e0, e1, e2, e3, e4, e5, e6, e7, e8, e9⟩ := CT zf;clear zf;go_wp2
 refine bodyPost_ret (v := .tuple #[.agg #[ji id, ji po, ji 1, ji 0, ji 0, .slice (some (ja q2 0)) 2 2, .slice none 0 0, .slice aG (BH (AX id po)).length cG, .slice none 0 0, .slice none 0 0], .bool true]) (by simp [results, results8, go_sem, *]) rfl ⟨⟨id, po, ⟨1, 0, 0⟩, CE, some (ja q2 0), 2, [], none, 0, BH (AX id po), aG, cG, [], none, 0, [], none, 0⟩, ⟨by rw [h1.out]; rfl, (GL id po q2 aG cG).trans hX.out.symm, FB id po q2 aG cG⟩, ?_, ?_⟩
 ·
  rw [← hW9]; exact hM
 rw [← hW9]; exact B9
end Go.Proofs.YtjmnaeeknomiaaaGreat
namespace Go.Proofs.YtjmnaeeknomiaaaGreat
open Go.ChangeShapes Go.WideShapes Go.ChangeAt Go.RowKit
open Go.ChangeMaps (open_string shut_string)
set_option linter.unusedVariables false
set_option maxRecDepth 100000
set_option maxHeartbeats 32000000
set_option linter.unusedSimpArgs false
open Go.Proofs.Tryz
theorem G9 {m : Mi} {x : Ik} {n : Nat} (h : m.lg.length ≤ n) : (AM m x).lg.length ≤ n + 1 := by
 unfold AM;split
 ·
  show (m.lg ++ [x]).length ≤ n + 1;simp only [List.length_append, List.length_cons, List.length_nil]; omega
 omega
def BL (n : Nat) (x : Bx) : Prop := x.two.length = 2 ∧ (∀ k, k < 2 → (x.two.getD k Mi.nil).lg.length ≤ n) ∧ x.net.length ≤ n ∧ x.ga.length ≤ n ∧ x.ln.length ≤ n ∧ x.sd.length ≤ n
theorem BL.setM {n : Nat} {x : Bx} (h : BL n x) (s : Int) {m : Mi} (hm : m.lg.length ≤ n) : BL n (Dv x s m) := by
 obtain ⟨h1, h2, h3, h4, h5, h6⟩ := h;refine ⟨by show (x.two.set s.toNat m).length = 2; rw [List.length_set]; exact h1, fun k hk => ?_, h3, h4, h5, h6⟩;show ((x.two.set s.toNat m).getD k Mi.nil).lg.length ≤ n;rw [List.getD_eq_getElem?_getD, List.getElem?_set];by_cases e : s.toNat = k
 ·
  rw [if_pos e, if_pos (by omega)];exact hm
 rw [if_neg e];have := h2 k hk;rwa [List.getD_eq_getElem?_getD] at this
theorem BL.net {n : Nat} {x : Bx} (h : BL n x) {N : List Wi} (hN : N.length ≤ n) : BL n (Cl x N) := ⟨h.1, h.2.1, hN, h.2.2.2.1, h.2.2.2.2.1, h.2.2.2.2.2⟩
theorem BL.reg {n : Nat} {x : Bx} (h : BL n x) (r : Rg) : BL n (FI x r) := h
theorem BL.up {n k : Nat} {x : Bx} (h : BL n x) (hk : n ≤ k) : BL k x := ⟨h.1, fun j hj => Nat.le_trans (h.2.1 j hj) hk, by have := h.2.2.1; omega, by have := h.2.2.2.1; omega, by have := h.2.2.2.2.1; omega, by have := h.2.2.2.2.2; omega⟩
theorem BL.lg_ {n : Nat} {x : Bx} (h : BL n x) (s : Int) : (Ab x s).lg.length ≤ n := by
 by_cases k : s.toNat < 2
 ·
  exact h.2.1 s.toNat k
 unfold Ab;have hn : x.two.length ≤ s.toNat := by have := h.1; omega
 rw [List.getD_eq_getElem?_getD, List.getElem?_eq_none hn];exact Nat.zero_le _
theorem BL.of {x : Bx} (h : Aw x = true) : BL 60 x := by
 obtain ⟨_, _, h3, h4, h5, _, h7, h8, h9, h10⟩ := Ds.1 h;obtain ⟨hn, _⟩ := Ds.1 h;refine ⟨h3, fun k hk => ?_, by omega, ?_, ?_, by omega⟩
 ·
  rcases (by omega : k = 0 ∨ k = 1) with rfl | rfl
  ·
   exact EI h4
  exact EI h5
 ·
  unfold Aq at hn;simp only [Bool.and_eq_true, decide_eq_true_eq] at hn;omega
 unfold Cn at h9;simp only [Bool.and_eq_true, decide_eq_true_eq] at h9;exact h9.2
theorem BL.acc {n : Nat} {x : Bx} (h : BL n x) (hn : 40 ≤ n) (s : Int) (O : List Ou) : BL n (CI x s O) := by
 unfold CI;split
 ·
  exact ⟨h.1, h.2.1, h.2.2.1, by show (O.foldl CG x.ga).length ≤ n; rw [E4]; exact h.2.2.2.1, h.2.2.2.2.1, by have := IL (x.sd ++ O); show (DC (x.sd ++ O)).length ≤ n; omega⟩
 exact h
theorem BL.line_ {n : Nat} {x : Bx} (h : BL n x) (k : Int) (y : Ik) : BL (n + 1) (Du x k y) := by
 unfold Du;split
 ·
  refine ⟨h.1, fun j hj => by have := h.2.1 j hj; show (x.two.getD j Mi.nil).lg.length ≤ n + 1; omega, by have := h.2.2.1; show x.net.length ≤ n + 1; omega, by have := h.2.2.2.1; show x.ga.length ≤ n + 1; omega, ?_, by have := h.2.2.2.2.2; show x.sd.length ≤ n + 1; omega⟩;show (x.ln ++ [y]).length ≤ n + 1;have := h.2.2.2.2.1;simp only [List.length_append, List.length_cons, List.length_nil];omega
 exact h.up (by omega)
theorem BL.take_ {n : Nat} {x : Bx} (h : BL n x) (d : De) : BL n (Cl x (x.net.take d.a.toNat ++ x.net.drop (d.a.toNat + 1))) := h.net (by
 have := h.2.2.1;simp only [List.length_append, List.length_take, List.length_drop];omega)
theorem BL.hear_ {n : Nat} {x : Bx} (h : BL n x) (w : Wi) : BL (n + 1) (Dc x w) := by
 unfold Dc;split
 ·
  exact (h.up (by omega)).setM _ (G9 (h.lg_ _))
 exact h.up (by omega)
theorem BL.heard {n : Nat} {x : Bx} (h : BL n x) (w : Wi) : BL (n + 1) (Cg x w) := by
 have hN := h.hear_ w;have hl := hN.2.2.1;have hu := h.up (show n ≤ n + 1 by omega);unfold Cg;split
 ·
  exact hu
 split
 ·
  split
  ·
   exact hu.setM _ (hu.lg_ _)
  exact hu
 split
 ·
  exact hu
 split
 ·
  refine hN.net ?_;have := h.2.2.1;simp only [List.length_append, List.length_cons, List.length_nil];omega
 exact hN
theorem BL.one {x : Bx} (h : BL 60 x) (d : De) : BL 62 (Cu x d).1 := by
 have hu := h.up (show 60 ≤ 62 by omega);have hn := h.2.2.1;unfold Cu;split
 ·
  unfold EQ;split
  ·
   exact hu
  split
  ·
   exact hu.setM _ (Nat.le_trans (G9 (h.lg_ _)) (by omega))
  exact hu
 split
 ·
  unfold ED;split
  ·
   exact hu
  exact (((h.acc (by omega) _ _).line_ _ _).up (by omega)).setM _ (hu.lg_ _)
 split
 ·
  unfold DK;split
  ·
   exact hu
  split
  ·
   split
   ·
    exact hu
   refine hu.net ?_;simp only [List.length_append, List.length_cons, List.length_nil];omega
  split
  ·
   exact ((h.take_ d).heard _).up (by omega)
  exact hu.take_ d
 split
 ·
  exact hu
 split
 ·
  unfold EV;split
  ·
   exact hu
  split
  ·
   exact hu
  refine hu.net ?_;simp only [List.length_append, List.length_cons, List.length_nil];omega
 split
 ·
  unfold Dg;split
  ·
   exact hu.setM _ (Nat.zero_le _)
  split
  ·
   exact hu.setM _ (Nat.zero_le _)
  exact hu
 unfold EN;split
 ·
  split
  ·
   exact hu
  split
  ·
   exact hu
  refine (hu.reg _).setM _ ?_;exact hu.lg_ d.a
 split <;> split <;> first | exact hu.reg _ | exact hu
theorem AK.smV {base n : Nat} {w : World} {x : AG} (h : AK base w x) (hs : BL n x.p) (hn : n ≤ 1000) : BT w x := by
 obtain ⟨h1, h2, h3, h4, h5, h6⟩ := hs;have e2 : x.two.length = 2 := by have h1 : (x.two.map AD.m).length = 2 := h1; simpa using h1
 refine h.view (by omega) (fun i hi => ?_) (by have h3 : x.net.length ≤ n := h3; omega) (by have h4 : x.ga.length ≤ n := h4; omega) (by have h5 : x.ln.length ≤ n := h5; omega) (by have h6 : x.sd.length ≤ n := h6; omega);have := h2 i (by omega);have e := Br x (i : Int);unfold Ab at e;simp only [Int.toNat_natCast] at e;rw [e] at this;omega
attribute [local go_sem] ji ja bc
def DD (d : De) : List Value := [ji d.k, ji d.a, ji d.x.k, ji d.x.q, ji d.x.r, ji d.x.c, ji d.x.b, ji d.x.p, ji d.x.h, .bool d.x.up]
theorem IT (d : De) : (DD d).length = 10 := rfl
theorem ID (L : List De) : ∀ u ∈ Aa DD L, u.oneCell' = true := by
 induction L with
 | nil => intro u h; cases h
 | cons x L ih =>
  intro u h;simp only [Aa, DD, List.mem_append, List.mem_cons, List.not_mem_nil, or_false] at h;rcases h with (rfl | rfl | rfl | rfl | rfl | rfl | rfl | rfl | rfl | rfl) | h
  ·
   rfl
  ·
   rfl
  ·
   rfl
  ·
   rfl
  ·
   rfl
  ·
   rfl
  ·
   rfl
  ·
   rfl
  ·
   rfl
  ·
   rfl
  exact ih u h
theorem Jn : (prog.info? 178).map (fun i => (i.zero, i.size, i.bytes)) = some (some (.agg #[ji 0, ji 0, ji 0, ji 0, ji 0, ji 0, ji 0, ji 0, ji 0, .bool false]), 10, 80) := by kernel_rfl
theorem AH.oneDe (w : World) (t : TypeId) (d : De) : AH DD (w.alloc (Obj.cells #[ji d.k, ji d.a, ji d.x.k, ji d.x.q, ji d.x.r, ji d.x.c, ji d.x.b, ji d.x.p, ji d.x.h, .bool d.x.up] t)) (some (ja w.heap.size 0)) [d] := by
 intro _;refine ⟨w.heap.size, 0, rfl, fun j u hv => ?_⟩;simp only [Aa, DD, List.append_nil] at hv;have hj : j < 10 := (List.getElem?_eq_some_iff.1 hv).1;rcases (by omega : j = 0 ∨ j = 1 ∨ j = 2 ∨ j = 3 ∨ j = 4 ∨ j = 5 ∨ j = 6 ∨ j = 7 ∨ j = 8 ∨ j = 9) with rfl | rfl | rfl | rfl | rfl | rfl | rfl | rfl | rfl | rfl <;> (cases hv; simp [go_sem])
theorem AK.rowT {base : Nat} {w w' : World} {x : AG} (h : AK base w x) {X : Type} {enc : X → List Value} {n : Nat} {T : TypeId} {b : Nat} {v : Value} {L : List X} (f : AB enc n T b w v L) (t1 : T ≠ 52) (t2 : T ≠ 64) (t3 : T ≠ 75) (t4 : T ≠ 4) (t5 : T ≠ 77) (g : w.grownBy w' v.ownBlock) : AK base w' x :=
 ⟨h.t.keep (fun g_ e => g.block g_ (h.t.lt g_ e).2 (fun e2 => f.apart h.t t1 e2.symm e)), fun i hi => (h.l i hi).keep (fun g_ e => g.block g_ ((h.l i hi).lt g_ e).2 (fun e2 => f.apart (h.l i hi) t2 e2.symm e)), h.n.keep (fun g_ e => g.block g_ (h.n.lt g_ e).2 (fun e2 => f.apart h.n t3 e2.symm e)), h.g.keep (fun g_ e => g.block g_ (h.g.lt g_ e).2 (fun e2 => f.apart h.g t4 e2.symm e)), h.i.keep (fun g_ e => g.block g_ (h.i.lt g_ e).2 (fun e2 => f.apart h.i t2 e2.symm e)), h.s.keep (fun g_ e => g.block g_ (h.s.lt g_ e).2 (fun e2 => f.apart h.s t5 e2.symm e)), h.ap⟩
theorem AK.cur {base cb : Nat} {w w' : World} {x : AG} (h : AK base w x) (g : w.grownBy w' (some cb)) (hb : cb < base) : AK base w' x :=
 h.keep (fun g_ a b => g.block g_ b (by simp; omega))
theorem IW {x : AG} (h : Aw x.p = true) : x.po ≤ 4 ∧ x.net.length ≤ 20 ∧ (0 ≤ x.rg.ow ∧ x.rg.ow ≤ 1) := by
 obtain ⟨h1, h2, h3, h4, h5, h6, h7, h8, h9, h10⟩ := Ds.1 h;have h1 : Aq x.id x.po = true := h1;have h2 : BV x.rg = true := h2;unfold Aq at h1;unfold BV at h2;simp only [Bool.and_eq_true, decide_eq_true_eq] at h1 h2;exact ⟨by omega, h7, by omega⟩
structure Cd (w : World) (cb : Nat) (ad : Option Addr) (len cap p7 p9 : Nat) (s x : AG) (W : World) : Prop where
 D : DV w cb ad len cap W
 Z4 : Av W w.heap.size
 Z6 : Av W (w.heap.size + 1)
 A7 : AN W p7 s
 A9 : AN W p9 x
 O : AK w.heap.size W x
 h7 : w.heap.size + 1 < p7
 h9 : p7 < p9
theorem Cd.later {w W : World} {cb : Nat} {ad : Option Addr} {len cap p7 p9 : Nat} {s x : AG} {W2 : World} (h : Cd w cb ad len cap p7 p9 s x W) (k : Bw W W2) : Cd w cb ad len cap p7 p9 s x W2 :=
 ⟨h.D.later8 k, h.Z4.keep (k.block _ h.Z4.lt_), h.Z6.keep (k.block _ h.Z6.lt_), h.A7.below k h.A7.lt, h.A9.below k h.A9.lt, h.O.later k, h.h7, h.h9⟩
theorem Cd.step {w W : World} {cb : Nat} {ad : Option Addr} {len cap p7 p9 : Nat} {s x : AG} {W2 : World} {f : Nat → Int} (h : Cd w cb ad len cap p7 p9 s x W) (hcb : cb < w.heap.size) (s_ : BE W2 cb ad len cap f) (g : W.grownBy W2 (some cb)) : Cd w cb ad len cap p7 p9 s x W2 :=
 ⟨h.D.step s_ g, h.Z4.keep (g.block _ h.Z4.lt_ (by simp; omega)), h.Z6.keep (g.block _ h.Z6.lt_ (by simp; omega)), h.A7.keep (g.block _ h.A7.lt (by have := h.h7; simp; omega)), h.A9.keep (g.block _ h.A9.lt (by have := h.h7; have := h.h9; simp; omega)), h.O.cur g hcb, h.h7, h.h9⟩
theorem Cd.row {w W : World} {cb : Nat} {ad : Option Addr} {len cap p7 p9 : Nat} {s x : AG} {W2 : World} {v : Value} {L : List De} (h : Cd w cb ad len cap p7 p9 s x W) (hcb : cb < w.heap.size) (f : AB DD 10 178 (p9 + 1) W v L) (g : W.grownBy W2 v.ownBlock) : Cd w cb ad len cap p7 p9 s x W2 := by
 have ho : ∀ k, v.ownBlock = some k → p9 + 1 ≤ k := fun k e => (f.lt k e).1
 have h7 := h.h7;have h9 := h.h9;have kp : ∀ q, q < W.heap.size → q < p9 + 1 → W2.heap[q]? = W.heap[q]? := fun q a b => g.block q a (fun e => by have := ho q e.symm; omega)
 exact ⟨⟨h.D.cur.carry (kp _ h.D.cur.lt (by omega)), HC h.D.gr g (fun k e => by have := ho k e; omega)⟩, h.Z4.keep (kp _ h.Z4.lt_ (by omega)), h.Z6.keep (kp _ h.Z6.lt_ (by omega)), h.A7.keep (kp _ h.A7.lt (by omega)), h.A9.keep (kp _ h.A9.lt (by omega)), h.O.rowT f (by decide) (by decide) (by decide) (by decide) (by decide) g, h7, h9⟩
theorem DV.put10_ {w W : World} {cb : Nat} {ad : Option Addr} {len cap q : Nat} (z : AG) (h : DV w cb ad len cap W) (hq : w.heap.size ≤ q) (hcb : cb < w.heap.size) : DV w cb ad len cap ((((((((((W.setCell (ja q 0) (ji z.id)).setCell (ja q 1) (ji z.po)).setCell (ja q 2) (ji z.rg.ep)).setCell (ja q 3) (ji z.rg.ow)).setCell (ja q 4) (ji z.rg.pa)).setCell (ja q 5) (.slice z.aT z.two.length z.cT)).setCell (ja q 6) (.slice z.aN z.net.length z.cN)).setCell (ja q 7) (.slice z.aG z.ga.length z.cG)).setCell (ja q 8) (.slice z.aL z.ln.length z.cL)).setCell (ja q 9) (.slice z.aS z.sd.length z.cS)) :=
 ((((((((((h.set hq hcb _).set hq hcb _).set hq hcb _).set hq hcb _).set hq hcb _).set hq hcb _).set hq hcb _).set hq hcb _).set hq hcb _).set hq hcb _)
theorem Cd.put {w W : World} {cb : Nat} {ad : Option Addr} {len cap p7 p9 : Nat} {s x : AG} {base : Nat} (h : Cd w cb ad len cap p7 p9 s x W) (hcb : cb < w.heap.size) (z : AG) (hz : AK base W z) (hb : p9 < base) : Cd w cb ad len cap p7 p9 s z ((((((((((W.setCell (ja p9 0) (ji z.id)).setCell (ja p9 1) (ji z.po)).setCell (ja p9 2) (ji z.rg.ep)).setCell (ja p9 3) (ji z.rg.ow)).setCell (ja p9 4) (ji z.rg.pa)).setCell (ja p9 5) (.slice z.aT z.two.length z.cT)).setCell (ja p9 6) (.slice z.aN z.net.length z.cN)).setCell (ja p9 7) (.slice z.aG z.ga.length z.cG)).setCell (ja p9 8) (.slice z.aL z.ln.length z.cL)).setCell (ja p9 9) (.slice z.aS z.sd.length z.cS)) := by
 have h7 := h.h7;have h9 := h.h9;have kp : ∀ k, k ≠ p9 → ((((((((((W.setCell (ja p9 0) (ji z.id)).setCell (ja p9 1) (ji z.po)).setCell (ja p9 2) (ji z.rg.ep)).setCell (ja p9 3) (ji z.rg.ow)).setCell (ja p9 4) (ji z.rg.pa)).setCell (ja p9 5) (.slice z.aT z.two.length z.cT)).setCell (ja p9 6) (.slice z.aN z.net.length z.cN)).setCell (ja p9 7) (.slice z.aG z.ga.length z.cG)).setCell (ja p9 8) (.slice z.aL z.ln.length z.cL)).setCell (ja p9 9) (.slice z.aS z.sd.length z.cS)).heap[k]? = W.heap[k]? := fun k hk => Am W p9 k z hk
 exact ⟨h.D.put10_ z (by omega) hcb, h.Z4.keep (kp _ (by omega)), h.Z6.keep (kp _ (by omega)), h.A7.keep (kp _ (by omega)), h.A9.put z, (hz.keep (fun g a _ => kp g (by omega))).base (by omega), h7, h9⟩
def JL (w : World) (cb : Nat) (ad : Option Addr) (len cap : Nat) (f : Nat → Int) (e : Ending) (w' : World) : Prop :=
 ∃ (s x : AG) (v : Value), e = .returned (.tuple #[.agg (bc s), v, .agg (bc x)]) ∧ Aw x.p = true ∧ AK w.heap.size w' x ∧ BE w' cb ad len cap f ∧ w.grownBy w' (some cb)
def J4 (w : World) (cb : Nat) (ad : Option Addr) (len cap : Nat) (f : Nat → Int) (e : Ending) (w' : World) : Prop :=
 ∃ x : AG, e = .returned (.agg (bc x)) ∧ Aw x.p = true ∧ AK w.heap.size w' x ∧ BE w' cb ad len cap f ∧ w.grownBy w' (some cb)
attribute [local go_sem] mc
theorem A8.lt {w : World} {q o : Nat} {x : AD} (h : A8 w q o x) : q < w.heap.size := World.block_lt_of_cell? w _ h.c0
theorem AQ.setSd' {w : World} {q : Nat} {m : Mi} {v : Value} (h : AQ w q m v) (z : Int) : AQ (w.setCell (ja q 4) (ji z)) q ⟨m.up, m.li, m.ep, m.lg, z, m.ac, m.al⟩ v := ⟨(AA (by decide)).trans h.c0, (AA (by decide)).trans h.c1, (AA (by decide)).trans h.c2, (AA (by decide)).trans h.c3, Aj h.c4, (AA (by decide)).trans h.c5, (AA (by decide)).trans h.c6, fun i => by rw [World.frozen?_setCell]; exact h.fr i⟩
theorem Kk (x : AG) (d : De) (w : World) (base : Nat) (hO : AK base w x) (hbw : base ≤ w.heap.size) (hb : Aw x.p = true) (ha : 0 ≤ d.a ∧ d.a ≤ 1) :
  Calls prog 179 #[.agg (bc x), .agg #[ji d.k, ji d.a, ji d.x.k, ji d.x.q, ji d.x.r, ji d.x.c, ji d.x.b, ji d.x.p, ji d.x.h, .bool d.x.up]] w fun e w' => ∃ x2 : AG, ∃ c : Int, e = .returned (.tuple #[.agg (bc x2), ji c]) ∧ (x2.p, c) = EN x.p d ∧ AK base w' x2 ∧ Below base w w' ∧ PZ w w' := by
 obtain ⟨y, hy⟩ := AC (((w.alloc (Obj.cells (bc x) 34)).alloc (Obj.cells #[ji d.k, ji d.a, ji d.x.k, ji d.x.q, ji d.x.r, ji d.x.c, ji d.x.b, ji d.x.p, ji d.x.h, .bool d.x.up] 178)).alloc (Obj.cells #[ji 0, ji 0, ji 0, ji 0, ji 0, .slice none 0 0, .slice none 0 0, .slice none 0 0, .slice none 0 0, .slice none 0 0] 34));obtain ⟨S, D, B0, ND⟩ := Ft x d w y hO hbw hy;have PZ_ := PZ.of B0;obtain ⟨hl2, hmi, _, _, hli, _⟩ := Dp hb;have V := S.O.okV hb;clear hb hO;obtain ⟨k, hk⟩ : ∃ k : Nat, d.a = (k : Int) := ⟨d.a.toNat, by omega⟩;have hk2 : k < 2 := by omega
 have hkl : k < x.two.length := by omega
 obtain ⟨g, hat, _, gl⟩ := S.O.t.blk (by omega);obtain ⟨m, hm⟩ : ∃ m, x.two.getD k AD.nil = m := ⟨_, rfl⟩;have M0 : A8 y g (k * 7) m := by have h1 := S.O.t.view.2; rw [hat] at h1; have := Bo (h1.at_ Ai AD.nil hkl); rw [hm] at this; simpa using this
 have hmo : Ab x.p d.a = m.m := by rw [Br, hk]; simp only [Int.toNat_natCast]; rw [hm]
 have hok : Au m.m = true := by have := hmi k hk2; rw [hm] at this; exact this
 have hlg := EI hok;have hct := V.ct;have hL := S.O.l k hkl;rw [hm] at hL;have hcn := hL.capn;obtain ⟨R, hR⟩ := AC (EN x.p d);rw [← hR];replace hR : Hid _ := hR;replace hk : Hid _ := hk;replace hat : Hid _ := hat;replace hm : Hid _ := hm;replace hmo : Hid _ := hmo;replace hok : Hid _ := hok;replace hl2 : Hid _ := hl2;clear ha hmi;go_enter func179, ntmps179
 go_upto_region 1 with fail
 rw [← hy];clear hy;obtain ⟨a0, a1, a2, a3, a4, a5, a6, a7, a8, a9⟩ := S.A.at_;rw [hat.out] at a5;have cD := D.c1;rw [hk.out] at cD;obtain ⟨v0, v1, v2, v3, v4, v5, v6⟩ := id M0;go_upto_region 2 with fail
 clear v0 v1 v2 v3 v4 v5 v6 a0 a1 a2 a3 a4 a5 a6 a7 a8 a9 cD;obtain ⟨u1, hu1, kq⟩ := AI y (Obj.cells (mc m.m m.ad m.cap) 52);rw [← hu1];have N : Ac u1 y.heap.size m.m (.slice m.ad m.m.lg.length m.cap) := by rw [hu1]; exact Ac.new y _ m.m _
 have NN : Ar y.heap.size x := S.O.ne (Nat.le_refl _);have nq := S.A.lt;have nd := D.lt;have nz := Bc S.Z;clear hu1;have S := S.later kq;have PZ_ := PZ_.later kq;have D := D.below kq D.lt;have V := V.later kq;have hL := hL.later kq;have M0 := M0.below kq gl;obtain ⟨qn, hqn⟩ := AC y.heap.size;rw [← hqn] at N NN nq nz nd gl ⊢;clear hqn kq;have e0 := D.c0;by_cases h9 : d.k = 9
 ·
  go_upto_region 3 with fail
  clear e0;have cD := D.c1;rw [hk.out] at cD;obtain ⟨a0, a1, a2, a3, a4, a5, a6, a7, a8, a9⟩ := S.A.at_;have n0 := N.all;go_wp2_with fail
  go_at_call 201
  clear n0 a0 a1 a2 a3 a4 a5 a6 a7 a8 a9 cD;refine (JP x.rg (k : Int) m.m m.ad m.cap u1 hL.view.2 (by omega) hcn).mono ?_;rintro e u2 ⟨a7, c7, rfl, O7, kq⟩;have gu := M0.lt;have NEA : ∀ q, u1.heap.size ≤ q → Ar q x := fun q h => S.O.ne h
  have lo7 := O7.lt;have liu := S.O.i.lt;have nq1 := S.A.lt;have nz1 := Bc S.Z;have s1 := S.sz;have S := S.later kq;have PZ_ := PZ_.later kq;have D := D.below kq D.lt;have M0 := M0.below kq (by have := M0.lt; omega);have z12 := kq.size;clear kq V;obtain ⟨rr, hrr⟩ := AC (CL x.rg (k : Int) m.m);obtain ⟨mm, hmm⟩ := AC (CA x.rg (k : Int) m.m);obtain ⟨tb, htb⟩ := AC (CM x.rg (k : Int) m.m);rw [← hrr, ← hmm, ← htb];replace hrr : Hid _ := hrr;replace hmm : Hid _ := hmm;replace htb : Hid _ := htb;go_upto_region 4 with fail
  obtain ⟨v3, hv3, k1⟩ := AI u2 (Obj.cells #[ji rr.ep, ji rr.ow, ji rr.pa] 27);obtain ⟨u3, hu3, k2⟩ := AI v3 (Obj.cells #[.bool mm.up, ji mm.li, ji mm.ep, .slice a7 m.m.lg.length c7, ji mm.sd, ji mm.ac, ji mm.al] 52);rw [← hv3, ← hu3];have sv : v3.heap.size = u2.heap.size + 1 := by rw [hv3]; simp
  have RG : Al v3 u2.heap.size rr := by rw [hv3]; exact Al.new u2 _ rr
  have N7 : AQ u3 v3.heap.size mm (.slice a7 m.m.lg.length c7) := by rw [hu3]; exact AQ.new v3 _ mm _
  have RG := RG.below k2 RG.lt;have kk := k1.trans (k2.mono (by omega));clear hv3 hu3 k1 k2;have S := S.later kk;have PZ_ := PZ_.later kk;have D := D.below kk D.lt;have M0 := M0.below kk (by have := M0.lt; omega);have O7 := O7.later kk;rw [sv] at N7;obtain ⟨q7, hq7⟩ := AC u2.heap.size;rw [← hq7] at RG N7 ⊢;have z27 : u2.heap.size ≤ q7 := by omega
  have lt7 : ∀ g_, (Value.slice a7 m.m.lg.length c7).ownBlock = some g_ → u1.heap.size ≤ g_ ∧ g_ < q7 := fun g_ e => by have := lo7 g_ e; omega
  clear sv kk hq7 lo7;cases tb
  ·
   have hX : Hid ((x.p, (3 : Int)) = R) := by unfold Hid; rw [hR.out]; unfold EN; rw [if_pos h9, hmo.out, hk.out, show x.p.rg = x.rg from rfl]; rw [if_pos htb.out.symm]
   replace h9 : Hid _ := h9;obtain ⟨O9, B9⟩ := S.ret;have P9 := S.pz PZ_ (by omega);have ZB := S.Z.box;have a0 := S.A.at_.all;have r0 := Ap ZB;clear S;go_wp2
   refine bodyPost_ret (v := .tuple #[AJ x, ji 3]) (by simp [AJ, results, results179, go_sem, *]) rfl ⟨x, 3, rfl, by exact hX.out, O9, B9, P9⟩
  by_cases hl : (m.m.lg.length : Int) < (x.ln.length : Int)
  ·
   have d1 : decide (m.m.lg.length < x.ln.length) = true := decide_eq_true (by omega);have hX : Hid ((x.p, (4 : Int)) = R) := by unfold Hid; rw [hR.out]; unfold EN; rw [if_pos h9, hmo.out, hk.out, show x.p.rg = x.rg from rfl]; rw [if_neg (by rw [← htb.out]; decide), if_pos (by show m.m.lg.length < x.ln.length; omega)]
   replace h9 : Hid _ := h9;have n0 := N7.all;obtain ⟨O9, B9⟩ := S.ret;have P9 := S.pz PZ_ (by omega);have ZB := S.Z.box;obtain ⟨a0, a1, a2, a3, a4, a5, a6, a7, a8, a9⟩ := S.A.at_;have r0 := Ap ZB;clear S;go_wp2
   refine bodyPost_ret (v := .tuple #[AJ x, ji 4]) (by simp [AJ, results, results179, go_sem, *]) rfl ⟨x, 4, rfl, by exact hX.out, O9, B9, P9⟩
  have d1 : decide (m.m.lg.length < x.ln.length) = false := decide_eq_false (by omega);have hX : Hid ((Dv (FI x.p rr) (k : Int) (⟨⟨mm.up, mm.li, mm.ep, m.m.lg, (x.ln.length : Int), mm.ac, mm.al⟩, a7, c7⟩ : AD).m, (0 : Int)) = R) := by unfold Hid; rw [hR.out]; unfold EN; rw [if_pos h9, hmo.out, hk.out, show x.p.rg = x.rg from rfl]; rw [if_neg (by rw [← htb.out]; decide), if_neg (by show ¬ m.m.lg.length < x.ln.length; omega), hrr.out, hmm.out]; unfold CL CA Hn; rw [← htb.out]; rfl
  replace h9 : Hid _ := h9;clear hl;obtain ⟨n0, n1, n2, n3, n4, n5, n6, nf⟩ := id N7;have f4 := nf 4;clear nf;obtain ⟨a0, a1, a2, a3, a4, a5, a6, a7, a8, a9⟩ := S.A.at_;go_upto_region 9 with fail
  clear n0 n1 n2 n3 n4 n5 n6 a0 a1 a2 a3 a4 a5 a6 a7 a8 a9 f4 d1;obtain ⟨u4, hu4⟩ := AC (u3.setCell ⟨q7 + 1, 4, none⟩ (ji (x.ln.length : Int)));rw [← hu4];have N7 : AQ u4 (q7 + 1) ⟨mm.up, mm.li, mm.ep, mm.lg, (x.ln.length : Int), mm.ac, mm.al⟩ (.slice a7 m.m.lg.length c7) := by rw [hu4]; exact N7.setSd' _
  have kp : ∀ g, g ≠ q7 + 1 → u4.heap[g]? = u3.heap[g]? := fun g hg => by rw [hu4]; exact AF hg
  have hqn7 : Ar (q7 + 1) x := NEA _ (by omega);have PZ_ := PZ_.keep (n := q7 + 1) (by omega) kp (by simp [*]);have S := S.keepN hqn7 (by omega) (by omega) kp (by rw [hu4]; exact S.B.setCell (p := ⟨q7 + 1, 4, none⟩) (by show base ≤ q7 + 1; omega) _);have D := D.keep (kp _ (by omega));have M0 := M0.keep (kp _ (by omega));have RG := RG.keep (kp _ (by omega));have O7 := O7.keep (fun g_ e => kp g_ (by have := lt7 g_ e; omega));clear hu4 kp hqn7;obtain ⟨⟨a0, a1, a2, a3, a4, a5, a6, a7, a8, a9⟩, af⟩ := S.A;have f2 := af 2;have f3 := af 3;have f4 := af 4;clear af;replace RG := RG.all;go_upto_region 10 with fail
  clear RG a0 a1 a2 a3 a4 a5 a6 a7 a8 a9 f2 f3 f4;obtain ⟨u5, hu5⟩ := AC (((u4.setCell (ja w.heap.size 2) (ji rr.ep)).setCell (ja w.heap.size 3) (ji rr.ow)).setCell (ja w.heap.size 4) (ji rr.pa));rw [← hu5];have kp : ∀ g, g ≠ w.heap.size → u5.heap[g]? = u4.heap[g]? := fun g hg => by rw [hu5, AF hg, AF hg, AF hg]
  have PZ_ := PZ_.keep (n := w.heap.size) (W2 := u5) (Nat.le_refl _) (fun g hg => by rw [hu5, AF hg, AF hg, AF hg]) (by rw [hu5]; simp);have S := S.setR rr;rw [← hu5] at S;have D := D.keep (kp _ (by omega));have M0 := M0.keep (kp _ (fun e => S.NA.t g (Ba hat.out rfl) e));have N7 := N7.keep (kp _ (by omega));have O7 := O7.keep (fun g_ e => kp g_ (by have := lt7 g_ e; omega));clear hu5 kp;have cA := S.A.at_.c5;rw [show ({ x with rg := rr } : AG).aT = x.aT from rfl, hat.out] at cA;have cD := D.c1;rw [hk.out] at cD;have n0 := N7.all;have v0 := M0.all;have ot := S.O.t;rw [show ({ x with rg := rr } : AG).aT = x.aT from rfl, hat.out] at ot;have f0 := ot.frozen (k * 7);have f1 := ot.frozen (k * 7 + 1);have f2 := ot.frozen (k * 7 + 2);have f3 := ot.frozen (k * 7 + 3);have f4 := ot.frozen (k * 7 + 4);have f5 := ot.frozen (k * 7 + 5);have f6 := ot.frozen (k * 7 + 6);clear ot;go_upto_region 11 with fail
  clear v0 n0 cA cD f0 f1 f2 f3 f4 f5 f6;obtain ⟨u6, hu6⟩ := AC (((((((u5.setCell ⟨g, k * 7, none⟩ (.bool mm.up)).setCell ⟨g, k * 7 + 1, none⟩ (ji mm.li)).setCell ⟨g, k * 7 + 2, none⟩ (ji mm.ep)).setCell ⟨g, k * 7 + 3, none⟩ (.slice a7 m.m.lg.length c7)).setCell ⟨g, k * 7 + 4, none⟩ (ji (x.ln.length : Int))).setCell ⟨g, k * 7 + 5, none⟩ (ji mm.ac)).setCell ⟨g, k * 7 + 6, none⟩ (ji mm.al));rw [← hu6];have PZ_ := PZ_.row (W2 := u6) S.O.t (by decide) (Ba hat.out rfl) (fun k_ hk_ => by rw [hu6, AF hk_, AF hk_, AF hk_, AF hk_, AF hk_, AF hk_, AF hk_]) (by rw [hu6]; simp);have S : Ah base w.heap.size (w.heap.size + 1 + 1) w u6 (({ x with rg := rr } : AG).setT k (⟨⟨mm.up, mm.li, mm.ep, m.m.lg, (x.ln.length : Int), mm.ac, mm.al⟩, a7, c7⟩ : AD)) := by rw [hu6]; exact S.setT (x := { x with rg := rr }) hat.out hkl (⟨⟨mm.up, mm.li, mm.ep, m.m.lg, (x.ln.length : Int), mm.ac, mm.al⟩, a7, c7⟩ : AD) (O7.base (by omega)) (fun g_ e e2 => by have := (lt7 g_ e).1; have := (liu g_ e2).2; omega) (fun g_ e => by have := (lt7 g_ e).1; omega)
  clear hu6;obtain ⟨z, hz⟩ : ∃ z : AG, z = ({ x with rg := rr } : AG).setT k (⟨⟨mm.up, mm.li, mm.ep, m.m.lg, (x.ln.length : Int), mm.ac, mm.al⟩, a7, c7⟩ : AD) := ⟨_, rfl⟩;rw [← hz] at S;have hP : Hid ((z.p, (0 : Int)) = R) := by unfold Hid; rw [hz, AG.setT_p, ← hX.out]; rfl
  clear hz hX;obtain ⟨O9, B9⟩ := S.ret;have P9 := S.pz PZ_ (by omega);have ZB := S.Z.box;have a0 := S.A.at_.all;have r0 := Ap ZB;clear S;go_wp2
  refine bodyPost_ret (v := .tuple #[AJ z, ji 0]) (by simp [AJ, results, results179, go_sem, *]) rfl ⟨z, 0, rfl, by exact hP.out, O9, B9, P9⟩
 replace h9 : Hid (¬ d.k = 9) := h9;have d9 : (d.k == 9) = false := by simpa using h9.out
 by_cases h10 : d.k = 10
 focus
  have hf : Hid ((if d.k = 10 then (Ab x.p d.a).al else 0) = m.m.al) := by unfold Hid; rw [if_pos h10, hmo.out]
  have d10 : (d.k == 10) = true := by simpa using h10
  replace h10 : Hid _ := h10;have n0 := N.all;go_upto_region 15 with fail
  clear n0 e0 d9 d10;have cD := D.c1;rw [hk.out] at cD;have a0 := S.A.at_.all;have n0 := N.all;go_wp2_with fail
  go_at_call 202
  clear n0 a0 cD;refine (HU x.rg (k : Int) m.m m.ad m.cap m.m.al u1 hL.view.2 (by omega)).mono ?_;rintro e u2 ⟨rfl, kq⟩;have nq1 := S.A.lt;have s1 := S.sz;have S := S.later kq;have PZ_ := PZ_.later kq;have D := D.below kq D.lt;have z12 := kq.size;clear kq V;obtain ⟨rr, hrr⟩ := AC (DG x.rg (k : Int) m.m m.m.al);obtain ⟨tb, htb⟩ := AC (DA x.rg (k : Int) m.m m.m.al)
 rotate_left;focus
  have hf : Hid ((if d.k = 10 then (Ab x.p d.a).al else 0) = 0) := by unfold Hid; rw [if_neg h10]
  have d10 : (d.k == 10) = false := by simpa using h10
  replace h10 : Hid (¬ d.k = 10) := h10;go_upto_region 15 with fail
  clear e0 d9 d10;have cD := D.c1;rw [hk.out] at cD;have a0 := S.A.at_.all;have n0 := N.all;go_wp2_with fail
  go_at_call 202
  clear n0 a0 cD;refine (HU x.rg (k : Int) m.m m.ad m.cap 0 u1 hL.view.2 (by omega)).mono ?_;rintro e u2 ⟨rfl, kq⟩;have nq1 := S.A.lt;have s1 := S.sz;have S := S.later kq;have PZ_ := PZ_.later kq;have D := D.below kq D.lt;have z12 := kq.size;clear kq V;obtain ⟨rr, hrr⟩ := AC (DG x.rg (k : Int) m.m 0);obtain ⟨tb, htb⟩ := AC (DA x.rg (k : Int) m.m 0)
 rotate_left;all_goals
  rw [← hrr, ← htb];replace hrr : Hid _ := hrr;replace htb : Hid _ := htb;go_upto_region 16 with fail
  obtain ⟨u3, hu3, kk⟩ := AI u2 (Obj.cells #[ji rr.ep, ji rr.ow, ji rr.pa] 27);rw [← hu3];have RG : Al u3 u2.heap.size rr := by rw [hu3]; exact Al.new u2 _ rr
  clear hu3;have S := S.later kk;have PZ_ := PZ_.later kk;have D := D.below kk D.lt;obtain ⟨q7, hq7⟩ := AC u2.heap.size;rw [← hq7] at RG ⊢;have z27 : u2.heap.size ≤ q7 := by omega
  clear kk hq7;cases tb
  ·
   have hX : Hid ((x.p, (3 : Int)) = R) := by unfold Hid; rw [hR.out]; unfold EN; rw [if_neg h9.out, hf.out, hmo.out, hk.out, show x.p.rg = x.rg from rfl]; rw [if_neg (by rw [← htb.out]; decide)]
   obtain ⟨O9, B9⟩ := S.ret;have P9 := S.pz PZ_ (by omega);have ZB := S.Z.box;have a0 := S.A.at_.all;have r0 := Ap ZB;clear S;go_wp2
   refine bodyPost_ret (v := .tuple #[AJ x, ji 3]) (by simp [AJ, results, results179, go_sem, *]) rfl ⟨x, 3, rfl, by exact hX.out, O9, B9, P9⟩
  ·
   have hX : Hid ((FI x.p rr, (0 : Int)) = R) := by unfold Hid; rw [hR.out]; unfold EN; rw [if_neg h9.out, hf.out, hmo.out, hk.out, show x.p.rg = x.rg from rfl]; rw [if_pos htb.out.symm, hrr.out]
   obtain ⟨⟨a0, a1, a2, a3, a4, a5, a6, a7, a8, a9⟩, af⟩ := S.A;have f2 := af 2;have f3 := af 3;have f4 := af 4;clear af;replace RG := RG.all;go_upto_region 19 with fail
   clear RG a0 a1 a2 a3 a4 a5 a6 a7 a8 a9 f2 f3 f4;obtain ⟨u5, hu5⟩ := AC (((u3.setCell (ja w.heap.size 2) (ji rr.ep)).setCell (ja w.heap.size 3) (ji rr.ow)).setCell (ja w.heap.size 4) (ji rr.pa));rw [← hu5];have PZ_ := PZ_.keep (n := w.heap.size) (W2 := u5) (Nat.le_refl _) (fun g hg => by rw [hu5, AF hg, AF hg, AF hg]) (by rw [hu5]; simp);have S := S.setR rr;rw [← hu5] at S;clear hu5;obtain ⟨z, hz⟩ : ∃ z : AG, z = { x with rg := rr } := ⟨_, rfl⟩;rw [← hz] at S;have hP : Hid ((z.p, (0 : Int)) = R) := by unfold Hid; rw [hz, ← hX.out]; rfl
   clear hz hX;obtain ⟨O9, B9⟩ := S.ret;have P9 := S.pz PZ_ (by omega);have ZB := S.Z.box;have a0 := S.A.at_.all;have r0 := Ap ZB;clear S;go_wp2
   refine bodyPost_ret (v := .tuple #[AJ z, ji 0]) (by simp [AJ, results, results179, go_sem, *]) rfl ⟨z, 0, rfl, by exact hP.out, O9, B9, P9⟩
end Go.Proofs.YtjmnaeeknomiaaaGreat
