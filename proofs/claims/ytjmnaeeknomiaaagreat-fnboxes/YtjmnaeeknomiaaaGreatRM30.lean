/- slices.Clone of wires, flags and what is said, walked. impl.copiedBox, walked. -/
import Derived.Test.YtjmnaeeknomiaaaGreatRM13
namespace Go.Proofs.YtjmnaeeknomiaaaGreat
open Go.ChangeShapes Go.WideShapes Go.ChangeAt Go.RowKit
open Go.ChangeMaps (open_string shut_string)
set_option linter.unusedVariables false
attribute [local go_sem] ji ja
set_option maxRecDepth 100000
set_option maxHeartbeats 32000000
set_option linter.unusedSimpArgs false
open Go.Proofs.Tryz
theorem Js (ad : Option Addr) (cap : Nat) (L : List Wi) (w : World) (hv : AH At w ad L) (hl : L.length ≤ 3000000) :
    Calls prog 100 #[.slice ad L.length cap] w fun e w' => ∃ ad' cap', e = .returned (.slice ad' L.length cap') ∧ AB At 12 75 w.heap.size w' (.slice ad' L.length cap') L ∧ Below w.heap.size w w' := by
  obtain ⟨i1, hj, hy0, hy1, hy2⟩ := info_parts Ep
  cases ad with
  | none =>
    obtain rfl := hv.none_nil
    have hEq : ∀ (y : World) (c : Nat), (binOp .eql 29 (.slice none 0 c) (.slice none 0 0)).run prog y = .ok (.bool true) y := fun y c => Go.Lib.run_eql_slice_nil y 29 75 none 0 c 0 0 underlying29
    simp only [List.length_nil]
    go_enter func100, ntmps100
    go_wp2
    go_ret
    exact ⟨_, _, rfl, AB.nil, Below.refl _ _⟩
  | some a =>
    have hB := hv.lt Be (by omega)
    have B0 := Ae (w := w) (Obj.cells #[] 75)
    have hv1 : AH At (w.alloc (Obj.cells #[] 75)) (some a) L := hv.below B0 hB
    have hEq : ∀ (y : World), (binOp .eql 29 (.slice (some a) L.length cap) (.slice none 0 0)).run prog y = .ok (.bool false) y := fun y => Go.Lib.run_eql_slice_nil y 29 75 (some a) L.length cap 0 0 underlying29
    go_enter func100, ntmps100
    go_wp2_with (first | (at_builtin; refine DT Be Cy rfl _ _ 29 rfl w.heap.size 75 i1 (.agg #[.int .i64 0, .bool false, .int .i64 0, .int .i64 0, .int .i64 0, .int .i64 0, .int .i64 0, .int .i64 0, .int .i64 0, .int .i64 0, .int .i64 0, .bool false]) 96 underlying29 hj hy0 hy1 hy2 rfl (by decide) (by decide) _ ([] : List Wi) rfl (AB.empty w) (some a) cap L rfl (fun e => by cases e) hv1 ?z0 ?z1 ?_) | go_in)
    case z0 => simp; omega
    case z1 => simp
    intro vZ wZ hownZ hgrowZ _
    have BZ : Below w.heap.size w wZ := B0.grown hgrowZ (by simp) (fun j e => ((AB.empty w : AB At 12 75 _ _ _ _).lt j e).1)
    replace hownZ : AB At 12 75 w.heap.size wZ vZ L := hownZ
    obtain ⟨adZ, capZ, rfl⟩ := hownZ.open_
    clear hgrowZ B0 hv1
    go_wp2
    go_ret
    exact ⟨_, _, rfl, hownZ, BZ⟩
theorem Ju (ad : Option Addr) (cap : Nat) (L : List Bool) (w : World) (hv : AH Az w ad L) (hl : L.length ≤ 3000000) :
    Calls prog 101 #[.slice ad L.length cap] w fun e w' => ∃ ad' cap', e = .returned (.slice ad' L.length cap') ∧ AB Az 1 4 w.heap.size w' (.slice ad' L.length cap') L ∧ Below w.heap.size w w' := by
  obtain ⟨i1, hj, hy0, hy1, hy2⟩ := info_parts Fg
  cases ad with
  | none =>
    obtain rfl := hv.none_nil
    have hEq : ∀ (y : World) (c : Nat), (binOp .eql 30 (.slice none 0 c) (.slice none 0 0)).run prog y = .ok (.bool true) y := fun y c => Go.Lib.run_eql_slice_nil y 30 4 none 0 c 0 0 underlying30
    simp only [List.length_nil]
    go_enter func101, ntmps101
    go_wp2
    go_ret
    exact ⟨_, _, rfl, AB.nil, Below.refl _ _⟩
  | some a =>
    have hB := hv.lt Bj (by omega)
    have B0 := Ae (w := w) (Obj.cells #[] 4)
    have hv1 : AH Az (w.alloc (Obj.cells #[] 4)) (some a) L := hv.below B0 hB
    have hEq : ∀ (y : World), (binOp .eql 30 (.slice (some a) L.length cap) (.slice none 0 0)).run prog y = .ok (.bool false) y := fun y => Go.Lib.run_eql_slice_nil y 30 4 (some a) L.length cap 0 0 underlying30
    go_enter func101, ntmps101
    go_wp2_with (first | (at_builtin; refine DT Bj Fw rfl _ _ 30 rfl w.heap.size 4 i1 (.bool false) 1 underlying30 hj hy0 hy1 hy2 rfl (by decide) (by decide) _ ([] : List Bool) rfl (AB.empty w) (some a) cap L rfl (fun e => by cases e) hv1 ?z0 ?z1 ?_) | go_in)
    case z0 => simp; omega
    case z1 => simp
    intro vZ wZ hownZ hgrowZ _
    have BZ : Below w.heap.size w wZ := B0.grown hgrowZ (by simp) (fun j e => ((AB.empty w : AB Az 1 4 _ _ _ _).lt j e).1)
    replace hownZ : AB Az 1 4 w.heap.size wZ vZ L := hownZ
    obtain ⟨adZ, capZ, rfl⟩ := hownZ.open_
    clear hgrowZ B0 hv1
    go_wp2
    go_ret
    exact ⟨_, _, rfl, hownZ, BZ⟩
theorem Jt (ad : Option Addr) (cap : Nat) (L : List Ou) (w : World) (hv : AH Ag w ad L) (hl : L.length ≤ 3000000) :
    Calls prog 103 #[.slice ad L.length cap] w fun e w' => ∃ ad' cap', e = .returned (.slice ad' L.length cap') ∧ AB Ag 8 77 w.heap.size w' (.slice ad' L.length cap') L ∧ Below w.heap.size w w' := by
  obtain ⟨i1, hj, hy0, hy1, hy2⟩ := info_parts Es
  cases ad with
  | none =>
    obtain rfl := hv.none_nil
    have hEq : ∀ (y : World) (c : Nat), (binOp .eql 32 (.slice none 0 c) (.slice none 0 0)).run prog y = .ok (.bool true) y := fun y c => Go.Lib.run_eql_slice_nil y 32 77 none 0 c 0 0 underlying32
    simp only [List.length_nil]
    go_enter func103, ntmps103
    go_wp2
    go_ret
    exact ⟨_, _, rfl, AB.nil, Below.refl _ _⟩
  | some a =>
    have hB := hv.lt BN (by omega)
    have B0 := Ae (w := w) (Obj.cells #[] 77)
    have hv1 : AH Ag (w.alloc (Obj.cells #[] 77)) (some a) L := hv.below B0 hB
    have hEq : ∀ (y : World), (binOp .eql 32 (.slice (some a) L.length cap) (.slice none 0 0)).run prog y = .ok (.bool false) y := fun y => Go.Lib.run_eql_slice_nil y 32 77 (some a) L.length cap 0 0 underlying32
    go_enter func103, ntmps103
    go_wp2_with (first | (at_builtin; refine DT BN Dz rfl _ _ 32 rfl w.heap.size 77 i1 (.agg #[.int .i64 0, .int .i64 0, .int .i64 0, .int .i64 0, .int .i64 0, .int .i64 0, .int .i64 0, .bool false]) 64 underlying32 hj hy0 hy1 hy2 rfl (by decide) (by decide) _ ([] : List Ou) rfl (AB.empty w) (some a) cap L rfl (fun e => by cases e) hv1 ?z0 ?z1 ?_) | go_in)
    case z0 => simp; omega
    case z1 => simp
    intro vZ wZ hownZ hgrowZ _
    have BZ : Below w.heap.size w wZ := B0.grown hgrowZ (by simp) (fun j e => ((AB.empty w : AB Ag 8 77 _ _ _ _).lt j e).1)
    replace hownZ : AB Ag 8 77 w.heap.size wZ vZ L := hownZ
    obtain ⟨adZ, capZ, rfl⟩ := hownZ.open_
    clear hgrowZ B0 hv1
    go_wp2
    go_ret
    exact ⟨_, _, rfl, hownZ, BZ⟩
theorem CC.push {lo hi lo7 : Nat} {w2 w3 : World} {v vN : Value} {T TN : List AD} {e : AD} (h : CC lo hi w2 v T) (hT : TN = T ++ [e]) (O7 : AB AO 8 64 lo7 w2 e.v e.m.lg) (l7 : ∀ g, e.v.ownBlock = some g → hi ≤ g) (hlo : lo ≤ lo7) (oN : AB BC 7 52 lo w3 vN TN) (gN : w2.grownBy w3 v.ownBlock) (hs : hi ≤ w2.heap.size) : CC lo w3.heap.size w3 vN TN := by
  have hn : ∀ j, j < TN.length → AB AO 8 64 lo w3 (TN.getD j AD.nil).v (TN.getD j AD.nil).m.lg :=
    Fm T e hT (fun z => AB AO 8 64 lo w3 z.v z.m.lg) (fun j hj => (h.nest j hj).keep (fun g e2 => gN.block g (by have := h.nhi j hj g e2; omega) (fun e3 => h.apart j hj g g e3.symm e2 rfl))) ((O7.base hlo).keep (fun g e2 => gN.block g (O7.lt g e2).2 (fun e3 => h.row.apart O7 (by decide) e3.symm e2)))
  refine ⟨oN, hn, fun g e2 => (oN.lt g e2).2, fun i hi g e2 => ((hn i hi).lt g e2).2, fun i hi g h2 e2 e3 e4 => oN.apart (hn i hi) (by decide) e2 (by rw [e4]; exact e3), ?_⟩
  intro i j hij hj g h2 e2 e3
  have hl : TN.length = T.length + 1 := by rw [hT]; simp
  have hi1 : i < T.length := by omega
  have gi : TN.getD i AD.nil = T.getD i AD.nil := by rw [hT]; simp [List.getD, List.getElem?_append_left hi1]
  rw [gi] at e2
  by_cases hj1 : j < T.length
  · have gj : TN.getD j AD.nil = T.getD j AD.nil := by rw [hT]; simp [List.getD, List.getElem?_append_left hj1]
    rw [gj] at e3
    exact h.aparts i j hij hj1 g h2 e2 e3
  · have ej : j = T.length := by omega
    have gj : TN.getD j AD.nil = e := by rw [hT, ej]; simp [List.getD]
    rw [gj] at e3
    have := h.nhi i hi1 g e2
    have := l7 h2 e3
    omega
attribute [local go_sem] bc
theorem Cx.keep {lo mid hi : Nat} {w w' : World} {x : AG} (h : Cx lo mid hi w x) (k : ∀ g, lo ≤ g → g < hi → w'.heap[g]? = w.heap[g]?) : Cx lo mid hi w' x := by
  have h1 := h.lm
  have h2 := h.mh
  exact ⟨h.t.keep (fun g p q => k g p (by omega)), h.n.keep (fun g e => k g (by have := (h.n.lt g e).1; omega) (h.nh g e)), h.g.keep (fun g e => k g (by have := (h.g.lt g e).1; omega) (h.gh g e)), h.i.keep (fun g e => k g (by have := (h.i.lt g e).1; omega) (h.ih g e)), h.s.keep (fun g e => k g (by have := (h.s.lt g e).1; omega) (h.sh g e)), h.nh, h.gh, h.ih, h.sh, h1, h2⟩
theorem AN.sG {w : World} {q : Nat} {x : AG} (h : AN w q x) (D : List Bool) (a : Option Addr) (n : Nat) (c : Nat) (hn : n = D.length) : AN (w.setCell ⟨q, 7, none⟩ (.slice a n c)) q { x with ga := D, aG := a, cG := c } := by
  subst hn
  obtain ⟨⟨h0, h1, h2, h3, h4, h5, h6, h7, h8, h9⟩, hf⟩ := h
  exact ⟨⟨(AA (by decide)).trans h0, (AA (by decide)).trans h1, (AA (by decide)).trans h2, (AA (by decide)).trans h3, (AA (by decide)).trans h4, (AA (by decide)).trans h5, (AA (by decide)).trans h6, Aj h7, (AA (by decide)).trans h8, (AA (by decide)).trans h9⟩, fun i => by rw [World.frozen?_setCell]; exact hf i⟩
theorem CC.nil {lo hi : Nat} {w : World} : CC lo hi w (.slice none 0 0) [] :=
  ⟨AB.nil, fun i h => absurd h (Nat.not_lt_zero i), fun g (e : none = some g) => (nomatch e), fun i h => absurd h (Nat.not_lt_zero i), fun i h => absurd h (Nat.not_lt_zero i), fun i j _ h => absurd h (Nat.not_lt_zero j)⟩
theorem BT.later' {w w' : World} {x : AG} (h : BT w x) (k : ∀ g, g < w.heap.size → w'.heap[g]? = w.heap[g]?) : BT w' x :=
  ⟨h.t.carry (fun a e p => k _ (h.t.lt Ai (by omega) a e p)), fun i hi => (h.l i hi).carry (fun a e p => k _ ((h.l i hi).lt AT (by omega) a e p)), h.n.carry (fun a e p => k _ (h.n.lt Be (by omega) a e p)), h.g.carry (fun a e p => k _ (h.g.lt Bj (by omega) a e p)), h.i.carry (fun a e p => k _ (h.i.lt AT (by omega) a e p)), h.s.carry (fun a e p => k _ (h.s.lt BN (by omega) a e p)), h.bt, h.bl, h.bn, h.bg, h.bi, h.bs, h.ct⟩
theorem JE (x : AG) (w : World) (hV : BT w x) :
    Calls prog 59 #[.agg #[.int .i64 x.id, .int .i64 x.po, .int .i64 x.rg.ep, .int .i64 x.rg.ow, .int .i64 x.rg.pa, .slice x.aT x.two.length x.cT, .slice x.aN x.net.length x.cN, .slice x.aG x.ga.length x.cG, .slice x.aL x.ln.length x.cL, .slice x.aS x.sd.length x.cS]] w fun e w' => ∃ x2 : AG, ∃ mid : Nat, e = .returned (.agg #[.int .i64 x2.id, .int .i64 x2.po, .int .i64 x2.rg.ep, .int .i64 x2.rg.ow, .int .i64 x2.rg.pa, .slice x2.aT x2.two.length x2.cT, .slice x2.aN x2.net.length x2.cN, .slice x2.aG x2.ga.length x2.cG, .slice x2.aL x2.ln.length x2.cL, .slice x2.aS x2.sd.length x2.cS]) ∧ x2.p = x.p ∧ Cx w.heap.size mid w'.heap.size w' x2 ∧ Below w.heap.size w w' := by
  have V0 := hV
  obtain ⟨i5, hi5, hz50, hz51, hz52⟩ := info_parts HY
  obtain ⟨y, hy⟩ : ∃ y, y = (w.alloc (Obj.cells #[.int .i64 x.id, .int .i64 x.po, .int .i64 x.rg.ep, .int .i64 x.rg.ow, .int .i64 x.rg.pa, .slice x.aT x.two.length x.cT, .slice x.aN x.net.length x.cN, .slice x.aG x.ga.length x.cG, .slice x.aL x.ln.length x.cL, .slice x.aS x.sd.length x.cS] 34)).alloc (Obj.cells #[.int .i64 0, .int .i64 0, .int .i64 0, .int .i64 0, .int .i64 0, .slice none 0 0, .slice none 0 0, .slice none 0 0, .slice none 0 0, .slice none 0 0] 34) := ⟨_, rfl⟩
  have B0 : Below w.heap.size w y := by rw [hy]; exact ((Below.refl _ _).alloc (Nat.le_refl _) _).alloc (by simp) _
  have A : AS y w.heap.size x := by rw [hy]; constructor <;> simp [go_sem]
  have Z : AN y (w.heap.size + 1) AG.zero := by rw [hy]; refine ⟨?_, fun i => ?_⟩; constructor <;> simp [go_sem, AG.zero]; simp [go_sem]
  have V := hV.later B0
  have zA := A.lt
  have zZ := Z.lt
  clear hV
  go_enter func59, ntmps59
  go_upto_region 1 with fail
  rw [← hy]
  clear hy
  have cc := A
  obtain ⟨a0, a1, a2, a3, a4, a5, a6, a7, a8, a9⟩ := cc
  go_upto_region 2 with fail
  clear a0 a1 a2 a3 a4 a5 a6 a7 a8 a9
  obtain ⟨u1, hu1⟩ : ∃ y_, y_ = y.alloc (Obj.cells #[.int .i64 x.id, .int .i64 x.po, .int .i64 x.rg.ep, .int .i64 x.rg.ow, .int .i64 x.rg.pa, .slice x.aT x.two.length x.cT, .slice x.aN x.net.length x.cN, .slice x.aG x.ga.length x.cG, .slice x.aL x.ln.length x.cL, .slice x.aS x.sd.length x.cS] 34) := ⟨_, rfl⟩
  rw [← hu1]
  have kk : Below y.heap.size y u1 := by rw [hu1]; exact Ae _
  have Q : AN u1 y.heap.size x := by rw [hu1]; refine ⟨AS.new y _ x, fun i => ?_⟩; simp [go_sem]
  clear hu1
  have zq := Q.lt
  obtain ⟨q, hq⟩ : ∃ q, q = y.heap.size := ⟨_, rfl⟩
  rw [← hq] at Q zq ⊢
  have hq1 := Nat.le_of_eq hq
  replace hq := Nat.le_of_eq hq.symm
  have A1 := A.below kk A.lt
  have cc := Q
  obtain ⟨⟨a0, a1, a2, a3, a4, a5, a6, a7, a8, a9⟩, af⟩ := cc
  have f5 := af 5
  clear af
  go_upto_region 3 with fail
  clear a0 a1 a2 a3 a4 a5 a6 a7 a8 a9 f5
  obtain ⟨u2, hu2⟩ : ∃ y_, y_ = u1.setCell ⟨q, 5, none⟩ (.slice none 0 0) := ⟨_, rfl⟩
  rw [← hu2]
  have Q : AN u2 q { x with two := [], aT := none, cT := 0 } := by rw [hu2]; exact Q.two [] none 0
  have K : Below y.heap.size y u2 := by rw [hu2]; exact kk.setCell (p := ⟨q, 5, none⟩) (by show y.heap.size ≤ q; omega) _
  have zq := Q.lt
  clear kk A1 hu2
  have A2 := A.below K A.lt
  have cc := A2
  obtain ⟨a0, a1, a2, a3, a4, a5, a6, a7, a8, a9⟩ := cc
  go_wp2
  clear a0 a1 a2 a3 a4 a5 a6 a7 a8 a9 A2
  go_loopw [11] (fun i wr => ∃ (k : Nat) (T : List AD) (aT : Option Addr) (cT : Nat), k ≤ x.two.length ∧ i = .int .i64 (k : Int) ∧ T.length = k ∧ (∀ j, j < k → (T.getD j AD.nil).m = (x.two.getD j AD.nil).m) ∧ AN wr q { x with two := T, aT := aT, cT := cT } ∧ CC (q + 1) wr.heap.size wr (.slice aT T.length cT) T ∧ Below y.heap.size y wr) (fun i _ => x.two.length - (intOf i).toNat)
  case atStart => exact ⟨0, [], none, 0, Nat.zero_le _, rfl, rfl, fun j hj => absurd hj (by omega), Q, CC.nil, K⟩
  case round =>
    clear Q K zq
    obtain ⟨k, T, aT, cT, hk, rfl, hTl, hTm, Q, M, K⟩ := hrel
    have A2 := A.below K A.lt
    have V2 := V.later K
    have bt := V.bt
    have zq := Q.lt
    have zK := K.size
    replace hTl : Hid _ := hTl
    by_cases hlt : k < x.two.length
    · obtain ⟨b, off, hat, hcell⟩ := V.t (by omega)
      replace hat : x.aT = some ⟨b, off, none⟩ := hat
      have hbl : b < y.heap.size := V.t.lt Ai (by omega) _ hat (by omega)
      obtain ⟨d, hd⟩ : ∃ d, x.two.getD k AD.nil = d := ⟨_, rfl⟩
      have hvl := V2.l k hlt
      have hll := V2.bl k hlt
      rw [hd] at hvl hll
      have hck : A8 wr b (off + k * 7) d := by have ht := V.t.below K (V.t.lt Ai (by omega)); rw [hat] at ht; rw [← hd]; exact Bo (ht.at_ Ai AD.nil hlt)
      obtain ⟨v0, v1, v2, v3, v4, v5, v6⟩ := hck
      rw [hat]
      go_upto_region 6 with fail
      clear v0 v1 v2 v3 v4 v5 v6 hcell
      obtain ⟨w3, hw3⟩ : ∃ y_, y_ = wr.alloc (Obj.cells #[.bool d.m.up, .int .i64 d.m.li, .int .i64 d.m.ep, .slice d.ad d.m.lg.length d.cap, .int .i64 d.m.sd, .int .i64 d.m.ac, .int .i64 d.m.al] 52) := ⟨_, rfl⟩
      rw [← hw3]
      have kq : Below wr.heap.size wr w3 := by rw [hw3]; exact Ae _
      have N : Ac w3 wr.heap.size d.m (.slice d.ad d.m.lg.length d.cap) := by rw [hw3]; exact Ac.new wr _ d.m _
      clear hw3
      obtain ⟨qn, hqn⟩ : ∃ q, q = wr.heap.size := ⟨_, rfl⟩
      rw [← hqn] at N M ⊢
      have hqn1 := Nat.le_of_eq hqn
      replace hqn := Nat.le_of_eq hqn.symm
      have nq := N.lt
      have hvl := hvl.below kq (hvl.lt AT (by omega))
      have Q := Q.below kq Q.lt
      have M := M.below kq (by omega)
      have K := K.trans (kq.mono zK)
      clear kq
      refine wp_region_held (S := fun Y => Ac Y qn d.m (.slice d.ad d.m.lg.length d.cap)) (by kernel_rfl) ?_
      change wpAnyH _ _ _ _ _ _ _ _ (World.drew _)
      have kd : Below w3.heap.size w3 w3.drew := (Below.refl _ _).drew
      obtain ⟨u0, hu0⟩ : ∃ y_, y_ = w3.drew := ⟨_, rfl⟩
      rw [← hu0] at kd ⊢
      clear hu0
      have hvl := hvl.below kd (hvl.lt AT (by omega))
      have Q := Q.below kd Q.lt
      have M := M.below kd (by omega)
      have N := N.below kd N.lt
      have K := K.trans (kd.mono (by omega))
      have z_u0 := kd.size
      clear kd
      refine Ak 0 15 (.pointer (some ⟨q, 5, none⟩)) rfl rfl (by kernel_rfl) (by kernel_rfl) (by kernel_rfl) (fun _ _ _ h => h) (by kernel_rfl) (by (intro w hSw; go_simp)) (by assumption) ?_
      simp only [List.set_cons_zero, List.set_cons_succ]
      refine Ak 2 17 (.agg #[.bool d.m.up, .int .i64 d.m.li, .int .i64 d.m.ep, .slice d.ad d.m.lg.length d.cap, .int .i64 d.m.sd, .int .i64 d.m.ac, .int .i64 d.m.al]) rfl rfl (by kernel_rfl) (by kernel_rfl) (by kernel_rfl) (fun _ _ _ h => h) (by kernel_rfl) (by (intro Y hSw; obtain ⟨X0, X1, X2, X3, X4, X5, X6⟩ := hSw; go_simp)) (by assumption) ?_
      simp only [List.set_cons_zero, List.set_cons_succ]
      refine wpAnyH_all (rs := [1, 3]) (by kernel_rfl) (by simp) ?_
      intro i hi; rcases (by simpa using hi : i = 1 ∨ i = 3) with rfl | rfl
      · refine wpOp_step rfl (fun Kz hKz => ?_)
        rw [if_pos (by kernel_rfl)]
        have c5 := Q.at_.c5
        go_simp
        clear c5
        refine hKz _ _ ⟨N, ?_⟩
        clear hKz Kz hi
        refine wpAnyH_all (rs := [3]) (by kernel_rfl) (by simp) ?_
        intro i hi; obtain rfl : i = 3 := by simpa using hi
        refine wpOp_step rfl (fun Kz hKz => ?_)
        rw [if_pos (by kernel_rfl)]
        go_simp
        go_at_call 98
        refine (FF d.m d.ad d.cap u0 hvl (by omega)).mono ?_
        rintro e u1 ⟨qm, a7, c7, rfl, Mg, O7, hqm, lqm, kq⟩
        have lo7 := O7.lt
        have Q := Q.below kq Q.lt
        have M := M.below kq (by omega)
        have N := N.below kq N.lt
        have K := K.trans (kq.mono (by omega))
        have z_u1 := kq.size
        clear kq
        refine hKz _ _ ⟨N, ?_⟩
        clear hKz Kz hi
        refine wpAnyH_all (rs := [4]) (by kernel_rfl) (by simp) ?_
        intro i hi; obtain rfl : i = 4 := by simpa using hi
        refine wpOp_step rfl (fun Kz hKz => ?_)
        rw [if_pos (by kernel_rfl)]
        go_simp
        go_at_call 99
        refine (GE d.m qm a7 c7 u1 Mg).mono ?_
        rintro e u2 ⟨rfl, kq⟩
        have O7 := O7.later kq
        have Q := Q.below kq Q.lt
        have M := M.below kq (by omega)
        have N := N.below kq N.lt
        have K := K.trans (kq.mono (by omega))
        have z_u2 := kq.size
        clear kq
        refine hKz _ _ ⟨N, ?_⟩
        clear hKz Kz hi
        refine wpAnyH_all (rs := [5]) (by kernel_rfl) (by simp) ?_
        intro i hi; obtain rfl : i = 5 := by simpa using hi
        refine wpOp_step rfl (fun Kz hKz => ?_)
        rw [if_pos (by kernel_rfl)]
        go_simp
        obtain ⟨u3, hu3⟩ : ∃ y_, y_ = u2.alloc (Obj.cells #[.bool d.m.up, .int .i64 d.m.li, .int .i64 d.m.ep, .slice a7 d.m.lg.length c7, .int .i64 d.m.sd, .int .i64 d.m.ac, .int .i64 d.m.al] 52) := ⟨_, rfl⟩
        have VN : AH BC u3 (some ⟨u2.heap.size, 0, none⟩) [(⟨d.m, a7, c7⟩ : AD)] := by rw [hu3]; exact AH.oneD u2 _ ⟨d.m, a7, c7⟩
        have kq : Below u2.heap.size u2 u3 := by rw [hu3]; exact Ae _
        have O7 := O7.later kq
        rw [← hu3]
        clear hu3
        have Q := Q.below kq Q.lt
        have M := M.below kq (by omega)
        have N := N.below kq N.lt
        have K := K.trans (kq.mono (by omega))
        have z_u3 := kq.size
        clear kq
        refine hKz _ _ ⟨N, ?_⟩
        clear hKz Kz hi
        refine wpAnyH_all (rs := [6]) (by kernel_rfl) (by simp) ?_
        intro i hi; obtain rfl : i = 6 := by simpa using hi
        refine wpOp_step rfl (fun Kz hKz => ?_)
        rw [if_pos (by kernel_rfl)]
        refine Bh Ai Ez 21 _ _ 28 rfl rfl (q + 1) 52 i5 (.agg #[.bool false, .int .i64 0, .int .i64 0, .slice none 0 0, .int .i64 0, .int .i64 0, .int .i64 0]) 72 underlying28 hi5 hz50 hz51 hz52 rfl (by decide) (by decide) (.slice aT T.length cT) T rfl M.row (some ⟨u2.heap.size, 0, none⟩) 1 [(⟨d.m, a7, c7⟩ : AD)] rfl (fun e => by cases e) VN (by have := hTl.out; simp; omega) (by omega) ?_
        intro vN u4 oN gN hob
        obtain ⟨TN, hTN⟩ : ∃ y_, y_ = (T ++ [(⟨d.m, a7, c7⟩ : AD)]) := ⟨_, rfl⟩
        rw [← hTN] at oN
        have M4 := M.push hTN (e := ⟨d.m, a7, c7⟩) O7 (fun g e2 => by have := (lo7 g e2).1; omega) (by omega) oN gN (by omega)
        obtain ⟨aN, cN, rfl⟩ := oN.open_
        have Q := Q.keep (gN.block q Q.lt (fun e => by have := (M.row.lt q e.symm).1; omega))
        have N := N.keep (gN.block qn N.lt (fun e => by have := M.rhi qn e.symm; omega))
        have K := K.grown gN (by omega) (fun j e => by have := (M.row.lt j e).1; omega)
        have z4 := gN.size
        replace hTN : Hid _ := hTN
        clear gN hob VN M oN O7
        have M := M4
        clear M4
        simp only [List.set_cons_zero, List.set_cons_succ]
        refine hKz _ _ ⟨N, ?_⟩
        clear hKz Kz hi
        refine Ak 7 22 (.pointer (some ⟨q, 5, none⟩)) rfl rfl (by kernel_rfl) (by kernel_rfl) (by kernel_rfl) (fun _ _ _ h => h) (by kernel_rfl) (by (intro w hSw; go_simp)) (by assumption) ?_
        simp only [List.set_cons_zero, List.set_cons_succ]
        refine wpAnyH_all (rs := [8]) (by kernel_rfl) (by simp) ?_
        intro i hi; obtain rfl : i = 8 := by simpa using hi
        refine wpOp_step rfl (fun Kz hKz => ?_)
        rw [if_pos (by kernel_rfl)]
        have c5 := Q.at_.c5
        have f5 := Q.fr 5
        go_simp
        clear c5 f5
        obtain ⟨u5, hu5⟩ : ∃ y_, y_ = u4.setCell ⟨q, 5, none⟩ (.slice aN TN.length cN) := ⟨_, rfl⟩
        have Q5 : AN u5 q { x with two := TN, aT := aN, cT := cN } := by rw [hu5]; exact Q.two TN aN cN
        have kp : ∀ k_, k_ ≠ q → u5.heap[k_]? = u4.heap[k_]? := fun k_ hk_ => by rw [hu5]; exact AF hk_
        have K5 : Below y.heap.size y u5 := by rw [hu5]; exact K.setCell (p := ⟨q, 5, none⟩) (by show y.heap.size ≤ q; omega) _
        have z5 : u4.heap.size ≤ u5.heap.size := by rw [hu5]; simp
        have M5 : CC (q + 1) u5.heap.size u5 (.slice aN TN.length cN) TN := (M.keep (fun g h1 _ => kp g (by omega))).wide (Nat.le_refl _) z5
        have N := N.keep (kp qn (by omega))
        rw [← hu5]
        clear hu5 kp Q M K
        refine hKz _ _ ⟨N, ?_⟩
        clear hKz Kz hi
        refine wpAnyH_done (by kernel_rfl) ?_ _
        have hTm5 : ∀ j, j < k + 1 → (TN.getD j AD.nil).m = (x.two.getD j AD.nil).m := FK hTN.out hTl.out hTm hd rfl
        have hTl5 : TN.length = k + 1 := by rw [hTN.out]; have := hTl.out; simp; omega
        replace hTl5 : Hid _ := hTl5
        go_wp2
        go_roundw
        case rel => exact ⟨k + 1, TN, aN, cN, by omega, by go_num, hTl5.out, hTm5, Q5, M5, K5⟩
        case measure => simp [intOf]; omega
      · refine wpOp_step rfl (fun Kz hKz => ?_)
        rw [if_pos (by kernel_rfl)]
        go_simp
        go_at_call 98
        refine (FF d.m d.ad d.cap u0 hvl (by omega)).mono ?_
        rintro e u1 ⟨qm, a7, c7, rfl, Mg, O7, hqm, lqm, kq⟩
        have lo7 := O7.lt
        have Q := Q.below kq Q.lt
        have M := M.below kq (by omega)
        have N := N.below kq N.lt
        have K := K.trans (kq.mono (by omega))
        have z_u1 := kq.size
        clear kq
        refine hKz _ _ ⟨N, ?_⟩
        clear hKz Kz hi
        refine wpAnyH_all (rs := [1, 4]) (by kernel_rfl) (by simp) ?_
        intro i hi; rcases (by simpa using hi : i = 1 ∨ i = 4) with rfl | rfl
        · refine wpOp_step rfl (fun Kz hKz => ?_)
          rw [if_pos (by kernel_rfl)]
          have c5 := Q.at_.c5
          go_simp
          clear c5
          refine hKz _ _ ⟨N, ?_⟩
          clear hKz Kz hi
          refine wpAnyH_all (rs := [4]) (by kernel_rfl) (by simp) ?_
          intro i hi; obtain rfl : i = 4 := by simpa using hi
          refine wpOp_step rfl (fun Kz hKz => ?_)
          rw [if_pos (by kernel_rfl)]
          go_simp
          go_at_call 99
          refine (GE d.m qm a7 c7 u1 Mg).mono ?_
          rintro e u2 ⟨rfl, kq⟩
          have O7 := O7.later kq
          have Q := Q.below kq Q.lt
          have M := M.below kq (by omega)
          have N := N.below kq N.lt
          have K := K.trans (kq.mono (by omega))
          have z_u2 := kq.size
          clear kq
          refine hKz _ _ ⟨N, ?_⟩
          clear hKz Kz hi
          refine wpAnyH_all (rs := [5]) (by kernel_rfl) (by simp) ?_
          intro i hi; obtain rfl : i = 5 := by simpa using hi
          refine wpOp_step rfl (fun Kz hKz => ?_)
          rw [if_pos (by kernel_rfl)]
          go_simp
          obtain ⟨u3, hu3⟩ : ∃ y_, y_ = u2.alloc (Obj.cells #[.bool d.m.up, .int .i64 d.m.li, .int .i64 d.m.ep, .slice a7 d.m.lg.length c7, .int .i64 d.m.sd, .int .i64 d.m.ac, .int .i64 d.m.al] 52) := ⟨_, rfl⟩
          have VN : AH BC u3 (some ⟨u2.heap.size, 0, none⟩) [(⟨d.m, a7, c7⟩ : AD)] := by rw [hu3]; exact AH.oneD u2 _ ⟨d.m, a7, c7⟩
          have kq : Below u2.heap.size u2 u3 := by rw [hu3]; exact Ae _
          have O7 := O7.later kq
          rw [← hu3]
          clear hu3
          have Q := Q.below kq Q.lt
          have M := M.below kq (by omega)
          have N := N.below kq N.lt
          have K := K.trans (kq.mono (by omega))
          have z_u3 := kq.size
          clear kq
          refine hKz _ _ ⟨N, ?_⟩
          clear hKz Kz hi
          refine wpAnyH_all (rs := [6]) (by kernel_rfl) (by simp) ?_
          intro i hi; obtain rfl : i = 6 := by simpa using hi
          refine wpOp_step rfl (fun Kz hKz => ?_)
          rw [if_pos (by kernel_rfl)]
          refine Bh Ai Ez 21 _ _ 28 rfl rfl (q + 1) 52 i5 (.agg #[.bool false, .int .i64 0, .int .i64 0, .slice none 0 0, .int .i64 0, .int .i64 0, .int .i64 0]) 72 underlying28 hi5 hz50 hz51 hz52 rfl (by decide) (by decide) (.slice aT T.length cT) T rfl M.row (some ⟨u2.heap.size, 0, none⟩) 1 [(⟨d.m, a7, c7⟩ : AD)] rfl (fun e => by cases e) VN (by have := hTl.out; simp; omega) (by omega) ?_
          intro vN u4 oN gN hob
          obtain ⟨TN, hTN⟩ : ∃ y_, y_ = (T ++ [(⟨d.m, a7, c7⟩ : AD)]) := ⟨_, rfl⟩
          rw [← hTN] at oN
          have M4 := M.push hTN (e := ⟨d.m, a7, c7⟩) O7 (fun g e2 => by have := (lo7 g e2).1; omega) (by omega) oN gN (by omega)
          obtain ⟨aN, cN, rfl⟩ := oN.open_
          have Q := Q.keep (gN.block q Q.lt (fun e => by have := (M.row.lt q e.symm).1; omega))
          have N := N.keep (gN.block qn N.lt (fun e => by have := M.rhi qn e.symm; omega))
          have K := K.grown gN (by omega) (fun j e => by have := (M.row.lt j e).1; omega)
          have z4 := gN.size
          replace hTN : Hid _ := hTN
          clear gN hob VN M oN O7
          have M := M4
          clear M4
          simp only [List.set_cons_zero, List.set_cons_succ]
          refine hKz _ _ ⟨N, ?_⟩
          clear hKz Kz hi
          refine Ak 7 22 (.pointer (some ⟨q, 5, none⟩)) rfl rfl (by kernel_rfl) (by kernel_rfl) (by kernel_rfl) (fun _ _ _ h => h) (by kernel_rfl) (by (intro w hSw; go_simp)) (by assumption) ?_
          simp only [List.set_cons_zero, List.set_cons_succ]
          refine wpAnyH_all (rs := [8]) (by kernel_rfl) (by simp) ?_
          intro i hi; obtain rfl : i = 8 := by simpa using hi
          refine wpOp_step rfl (fun Kz hKz => ?_)
          rw [if_pos (by kernel_rfl)]
          have c5 := Q.at_.c5
          have f5 := Q.fr 5
          go_simp
          clear c5 f5
          obtain ⟨u5, hu5⟩ : ∃ y_, y_ = u4.setCell ⟨q, 5, none⟩ (.slice aN TN.length cN) := ⟨_, rfl⟩
          have Q5 : AN u5 q { x with two := TN, aT := aN, cT := cN } := by rw [hu5]; exact Q.two TN aN cN
          have kp : ∀ k_, k_ ≠ q → u5.heap[k_]? = u4.heap[k_]? := fun k_ hk_ => by rw [hu5]; exact AF hk_
          have K5 : Below y.heap.size y u5 := by rw [hu5]; exact K.setCell (p := ⟨q, 5, none⟩) (by show y.heap.size ≤ q; omega) _
          have z5 : u4.heap.size ≤ u5.heap.size := by rw [hu5]; simp
          have M5 : CC (q + 1) u5.heap.size u5 (.slice aN TN.length cN) TN := (M.keep (fun g h1 _ => kp g (by omega))).wide (Nat.le_refl _) z5
          have N := N.keep (kp qn (by omega))
          rw [← hu5]
          clear hu5 kp Q M K
          refine hKz _ _ ⟨N, ?_⟩
          clear hKz Kz hi
          refine wpAnyH_done (by kernel_rfl) ?_ _
          have hTm5 : ∀ j, j < k + 1 → (TN.getD j AD.nil).m = (x.two.getD j AD.nil).m := FK hTN.out hTl.out hTm hd rfl
          have hTl5 : TN.length = k + 1 := by rw [hTN.out]; have := hTl.out; simp; omega
          replace hTl5 : Hid _ := hTl5
          go_wp2
          go_roundw
          case rel => exact ⟨k + 1, TN, aN, cN, by omega, by go_num, hTl5.out, hTm5, Q5, M5, K5⟩
          case measure => simp [intOf]; omega
        · refine wpOp_step rfl (fun Kz hKz => ?_)
          rw [if_pos (by kernel_rfl)]
          go_simp
          go_at_call 99
          refine (GE d.m qm a7 c7 u1 Mg).mono ?_
          rintro e u2 ⟨rfl, kq⟩
          have O7 := O7.later kq
          have Q := Q.below kq Q.lt
          have M := M.below kq (by omega)
          have N := N.below kq N.lt
          have K := K.trans (kq.mono (by omega))
          have z_u2 := kq.size
          clear kq
          refine hKz _ _ ⟨N, ?_⟩
          clear hKz Kz hi
          refine wpAnyH_all (rs := [1, 5]) (by kernel_rfl) (by simp) ?_
          intro i hi; rcases (by simpa using hi : i = 1 ∨ i = 5) with rfl | rfl
          · refine wpOp_step rfl (fun Kz hKz => ?_)
            rw [if_pos (by kernel_rfl)]
            have c5 := Q.at_.c5
            go_simp
            clear c5
            refine hKz _ _ ⟨N, ?_⟩
            clear hKz Kz hi
            refine wpAnyH_all (rs := [5]) (by kernel_rfl) (by simp) ?_
            intro i hi; obtain rfl : i = 5 := by simpa using hi
            refine wpOp_step rfl (fun Kz hKz => ?_)
            rw [if_pos (by kernel_rfl)]
            go_simp
            obtain ⟨u3, hu3⟩ : ∃ y_, y_ = u2.alloc (Obj.cells #[.bool d.m.up, .int .i64 d.m.li, .int .i64 d.m.ep, .slice a7 d.m.lg.length c7, .int .i64 d.m.sd, .int .i64 d.m.ac, .int .i64 d.m.al] 52) := ⟨_, rfl⟩
            have VN : AH BC u3 (some ⟨u2.heap.size, 0, none⟩) [(⟨d.m, a7, c7⟩ : AD)] := by rw [hu3]; exact AH.oneD u2 _ ⟨d.m, a7, c7⟩
            have kq : Below u2.heap.size u2 u3 := by rw [hu3]; exact Ae _
            have O7 := O7.later kq
            rw [← hu3]
            clear hu3
            have Q := Q.below kq Q.lt
            have M := M.below kq (by omega)
            have N := N.below kq N.lt
            have K := K.trans (kq.mono (by omega))
            have z_u3 := kq.size
            clear kq
            refine hKz _ _ ⟨N, ?_⟩
            clear hKz Kz hi
            refine wpAnyH_all (rs := [6]) (by kernel_rfl) (by simp) ?_
            intro i hi; obtain rfl : i = 6 := by simpa using hi
            refine wpOp_step rfl (fun Kz hKz => ?_)
            rw [if_pos (by kernel_rfl)]
            refine Bh Ai Ez 21 _ _ 28 rfl rfl (q + 1) 52 i5 (.agg #[.bool false, .int .i64 0, .int .i64 0, .slice none 0 0, .int .i64 0, .int .i64 0, .int .i64 0]) 72 underlying28 hi5 hz50 hz51 hz52 rfl (by decide) (by decide) (.slice aT T.length cT) T rfl M.row (some ⟨u2.heap.size, 0, none⟩) 1 [(⟨d.m, a7, c7⟩ : AD)] rfl (fun e => by cases e) VN (by have := hTl.out; simp; omega) (by omega) ?_
            intro vN u4 oN gN hob
            obtain ⟨TN, hTN⟩ : ∃ y_, y_ = (T ++ [(⟨d.m, a7, c7⟩ : AD)]) := ⟨_, rfl⟩
            rw [← hTN] at oN
            have M4 := M.push hTN (e := ⟨d.m, a7, c7⟩) O7 (fun g e2 => by have := (lo7 g e2).1; omega) (by omega) oN gN (by omega)
            obtain ⟨aN, cN, rfl⟩ := oN.open_
            have Q := Q.keep (gN.block q Q.lt (fun e => by have := (M.row.lt q e.symm).1; omega))
            have N := N.keep (gN.block qn N.lt (fun e => by have := M.rhi qn e.symm; omega))
            have K := K.grown gN (by omega) (fun j e => by have := (M.row.lt j e).1; omega)
            have z4 := gN.size
            replace hTN : Hid _ := hTN
            clear gN hob VN M oN O7
            have M := M4
            clear M4
            simp only [List.set_cons_zero, List.set_cons_succ]
            refine hKz _ _ ⟨N, ?_⟩
            clear hKz Kz hi
            refine Ak 7 22 (.pointer (some ⟨q, 5, none⟩)) rfl rfl (by kernel_rfl) (by kernel_rfl) (by kernel_rfl) (fun _ _ _ h => h) (by kernel_rfl) (by (intro w hSw; go_simp)) (by assumption) ?_
            simp only [List.set_cons_zero, List.set_cons_succ]
            refine wpAnyH_all (rs := [8]) (by kernel_rfl) (by simp) ?_
            intro i hi; obtain rfl : i = 8 := by simpa using hi
            refine wpOp_step rfl (fun Kz hKz => ?_)
            rw [if_pos (by kernel_rfl)]
            have c5 := Q.at_.c5
            have f5 := Q.fr 5
            go_simp
            clear c5 f5
            obtain ⟨u5, hu5⟩ : ∃ y_, y_ = u4.setCell ⟨q, 5, none⟩ (.slice aN TN.length cN) := ⟨_, rfl⟩
            have Q5 : AN u5 q { x with two := TN, aT := aN, cT := cN } := by rw [hu5]; exact Q.two TN aN cN
            have kp : ∀ k_, k_ ≠ q → u5.heap[k_]? = u4.heap[k_]? := fun k_ hk_ => by rw [hu5]; exact AF hk_
            have K5 : Below y.heap.size y u5 := by rw [hu5]; exact K.setCell (p := ⟨q, 5, none⟩) (by show y.heap.size ≤ q; omega) _
            have z5 : u4.heap.size ≤ u5.heap.size := by rw [hu5]; simp
            have M5 : CC (q + 1) u5.heap.size u5 (.slice aN TN.length cN) TN := (M.keep (fun g h1 _ => kp g (by omega))).wide (Nat.le_refl _) z5
            have N := N.keep (kp qn (by omega))
            rw [← hu5]
            clear hu5 kp Q M K
            refine hKz _ _ ⟨N, ?_⟩
            clear hKz Kz hi
            refine wpAnyH_done (by kernel_rfl) ?_ _
            have hTm5 : ∀ j, j < k + 1 → (TN.getD j AD.nil).m = (x.two.getD j AD.nil).m := FK hTN.out hTl.out hTm hd rfl
            have hTl5 : TN.length = k + 1 := by rw [hTN.out]; have := hTl.out; simp; omega
            replace hTl5 : Hid _ := hTl5
            go_wp2
            go_roundw
            case rel => exact ⟨k + 1, TN, aN, cN, by omega, by go_num, hTl5.out, hTm5, Q5, M5, K5⟩
            case measure => simp [intOf]; omega
          · refine wpOp_step rfl (fun Kz hKz => ?_)
            rw [if_pos (by kernel_rfl)]
            go_simp
            obtain ⟨u3, hu3⟩ : ∃ y_, y_ = u2.alloc (Obj.cells #[.bool d.m.up, .int .i64 d.m.li, .int .i64 d.m.ep, .slice a7 d.m.lg.length c7, .int .i64 d.m.sd, .int .i64 d.m.ac, .int .i64 d.m.al] 52) := ⟨_, rfl⟩
            have VN : AH BC u3 (some ⟨u2.heap.size, 0, none⟩) [(⟨d.m, a7, c7⟩ : AD)] := by rw [hu3]; exact AH.oneD u2 _ ⟨d.m, a7, c7⟩
            have kq : Below u2.heap.size u2 u3 := by rw [hu3]; exact Ae _
            have O7 := O7.later kq
            rw [← hu3]
            clear hu3
            have Q := Q.below kq Q.lt
            have M := M.below kq (by omega)
            have N := N.below kq N.lt
            have K := K.trans (kq.mono (by omega))
            have z_u3 := kq.size
            clear kq
            refine hKz _ _ ⟨N, ?_⟩
            clear hKz Kz hi
            refine wpAnyH_all (rs := [1]) (by kernel_rfl) (by simp) ?_
            intro i hi; obtain rfl : i = 1 := by simpa using hi
            refine wpOp_step rfl (fun Kz hKz => ?_)
            rw [if_pos (by kernel_rfl)]
            have c5 := Q.at_.c5
            go_simp
            clear c5
            refine hKz _ _ ⟨N, ?_⟩
            clear hKz Kz hi
            refine wpAnyH_all (rs := [6]) (by kernel_rfl) (by simp) ?_
            intro i hi; obtain rfl : i = 6 := by simpa using hi
            refine wpOp_step rfl (fun Kz hKz => ?_)
            rw [if_pos (by kernel_rfl)]
            refine Bh Ai Ez 21 _ _ 28 rfl rfl (q + 1) 52 i5 (.agg #[.bool false, .int .i64 0, .int .i64 0, .slice none 0 0, .int .i64 0, .int .i64 0, .int .i64 0]) 72 underlying28 hi5 hz50 hz51 hz52 rfl (by decide) (by decide) (.slice aT T.length cT) T rfl M.row (some ⟨u2.heap.size, 0, none⟩) 1 [(⟨d.m, a7, c7⟩ : AD)] rfl (fun e => by cases e) VN (by have := hTl.out; simp; omega) (by omega) ?_
            intro vN u4 oN gN hob
            obtain ⟨TN, hTN⟩ : ∃ y_, y_ = (T ++ [(⟨d.m, a7, c7⟩ : AD)]) := ⟨_, rfl⟩
            rw [← hTN] at oN
            have M4 := M.push hTN (e := ⟨d.m, a7, c7⟩) O7 (fun g e2 => by have := (lo7 g e2).1; omega) (by omega) oN gN (by omega)
            obtain ⟨aN, cN, rfl⟩ := oN.open_
            have Q := Q.keep (gN.block q Q.lt (fun e => by have := (M.row.lt q e.symm).1; omega))
            have N := N.keep (gN.block qn N.lt (fun e => by have := M.rhi qn e.symm; omega))
            have K := K.grown gN (by omega) (fun j e => by have := (M.row.lt j e).1; omega)
            have z4 := gN.size
            replace hTN : Hid _ := hTN
            clear gN hob VN M oN O7
            have M := M4
            clear M4
            simp only [List.set_cons_zero, List.set_cons_succ]
            refine hKz _ _ ⟨N, ?_⟩
            clear hKz Kz hi
            refine Ak 7 22 (.pointer (some ⟨q, 5, none⟩)) rfl rfl (by kernel_rfl) (by kernel_rfl) (by kernel_rfl) (fun _ _ _ h => h) (by kernel_rfl) (by (intro w hSw; go_simp)) (by assumption) ?_
            simp only [List.set_cons_zero, List.set_cons_succ]
            refine wpAnyH_all (rs := [8]) (by kernel_rfl) (by simp) ?_
            intro i hi; obtain rfl : i = 8 := by simpa using hi
            refine wpOp_step rfl (fun Kz hKz => ?_)
            rw [if_pos (by kernel_rfl)]
            have c5 := Q.at_.c5
            have f5 := Q.fr 5
            go_simp
            clear c5 f5
            obtain ⟨u5, hu5⟩ : ∃ y_, y_ = u4.setCell ⟨q, 5, none⟩ (.slice aN TN.length cN) := ⟨_, rfl⟩
            have Q5 : AN u5 q { x with two := TN, aT := aN, cT := cN } := by rw [hu5]; exact Q.two TN aN cN
            have kp : ∀ k_, k_ ≠ q → u5.heap[k_]? = u4.heap[k_]? := fun k_ hk_ => by rw [hu5]; exact AF hk_
            have K5 : Below y.heap.size y u5 := by rw [hu5]; exact K.setCell (p := ⟨q, 5, none⟩) (by show y.heap.size ≤ q; omega) _
            have z5 : u4.heap.size ≤ u5.heap.size := by rw [hu5]; simp
            have M5 : CC (q + 1) u5.heap.size u5 (.slice aN TN.length cN) TN := (M.keep (fun g h1 _ => kp g (by omega))).wide (Nat.le_refl _) z5
            have N := N.keep (kp qn (by omega))
            rw [← hu5]
            clear hu5 kp Q M K
            refine hKz _ _ ⟨N, ?_⟩
            clear hKz Kz hi
            refine wpAnyH_done (by kernel_rfl) ?_ _
            have hTm5 : ∀ j, j < k + 1 → (TN.getD j AD.nil).m = (x.two.getD j AD.nil).m := FK hTN.out hTl.out hTm hd rfl
            have hTl5 : TN.length = k + 1 := by rw [hTN.out]; have := hTl.out; simp; omega
            replace hTl5 : Hid _ := hTl5
            go_wp2
            go_roundw
            case rel => exact ⟨k + 1, TN, aN, cN, by omega, by go_num, hTl5.out, hTm5, Q5, M5, K5⟩
            case measure => simp [intOf]; omega
    · obtain rfl : k = x.two.length := by omega
      have hTp : T.map AD.m = x.two.map AD.m := Hm hTl.out hTm
      clear hTm
      replace hTp : Hid _ := hTp
      obtain ⟨hm, ehm⟩ : ∃ h, h = wr.heap.size := ⟨_, rfl⟩
      rw [← ehm] at M
      have ehm1 := Nat.le_of_eq ehm
      replace ehm := Nat.le_of_eq ehm.symm
      have B1 := B0.trans (K.mono B0.size)
      have Z := Z.below K Z.lt
      have cc := A2
      obtain ⟨a0, a1, a2, a3, a4, a5, a6, a7, a8, a9⟩ := cc
      go_wp2_with fail
      go_at_call 100
      clear a0 a1 a2 a3 a4 a5 a6 a7 a8 a9
      refine (Js x.aN x.cN x.net wr V2.n (by have := V2.bn; omega)).mono ?_
      rintro e p0 ⟨bN, dN, rfl, ON, kq⟩
      have loN := ON.lt
      have A2 := A2.below kq A2.lt
      have V2 := V2.later kq
      have Q := Q.below kq Q.lt
      have Z := Z.below kq Z.lt
      have M := M.below kq (by omega)
      have B1 := B1.trans (kq.mono (by omega))
      have t0 := kq.size
      clear kq
      have cc := Q
      obtain ⟨⟨a0, a1, a2, a3, a4, a5, a6, a7, a8, a9⟩, af⟩ := cc
      have ff := af 6
      clear af
      go_upto_region 9 with fail
      clear a0 a1 a2 a3 a4 a5 a6 a7 a8 a9 ff
      obtain ⟨s0, hs0⟩ : ∃ y_, y_ = p0.setCell ⟨q, 6, none⟩ (.slice bN x.net.length dN) := ⟨_, rfl⟩
      rw [← hs0]
      have kp : ∀ k_, k_ ≠ q → s0.heap[k_]? = p0.heap[k_]? := fun k_ hk_ => by rw [hs0]; exact AF hk_
      have Q := Q.sN x.net bN x.net.length dN rfl
      rw [← hs0] at Q
      have A2 := A2.keep (kp _ (by omega))
      have Z := Z.keep (kp _ (by omega))
      have M := M.keep (fun g h1 _ => kp g (by omega))
      have B1 : Below w.heap.size w s0 := by rw [hs0]; exact B1.setCell (p := ⟨q, 6, none⟩) (by show w.heap.size ≤ q; omega) _
      have v0 : s0.heap.size = p0.heap.size := by rw [hs0]; simp
      have v0 := Nat.le_of_eq v0.symm
      have ON := ON.keep (fun g e => kp g (by have := (loN g e).1; omega))
      have V2 : BT s0 x := V0.later' (fun g hg => (B1.block g hg))
      clear kp hs0
      have cc := A2
      obtain ⟨a0, a1, a2, a3, a4, a5, a6, a7, a8, a9⟩ := cc
      go_wp2_with fail
      go_at_call 101
      clear a0 a1 a2 a3 a4 a5 a6 a7 a8 a9
      refine (Ju x.aG x.cG x.ga s0 V2.g (by have := V2.bg; omega)).mono ?_
      rintro e p1 ⟨bG, dG, rfl, OG, kq⟩
      have loG := OG.lt
      have A2 := A2.below kq A2.lt
      have V2 := V2.later kq
      have Q := Q.below kq Q.lt
      have Z := Z.below kq Z.lt
      have M := M.below kq (by omega)
      have B1 := B1.trans (kq.mono (by omega))
      have t1 := kq.size
      have ON := ON.later kq
      clear kq
      have cc := Q
      obtain ⟨⟨a0, a1, a2, a3, a4, a5, a6, a7, a8, a9⟩, af⟩ := cc
      have ff := af 7
      clear af
      go_upto_region 10 with fail
      clear a0 a1 a2 a3 a4 a5 a6 a7 a8 a9 ff
      obtain ⟨s1, hs1⟩ : ∃ y_, y_ = p1.setCell ⟨q, 7, none⟩ (.slice bG x.ga.length dG) := ⟨_, rfl⟩
      rw [← hs1]
      have kp : ∀ k_, k_ ≠ q → s1.heap[k_]? = p1.heap[k_]? := fun k_ hk_ => by rw [hs1]; exact AF hk_
      have Q := Q.sG x.ga bG x.ga.length dG rfl
      rw [← hs1] at Q
      have A2 := A2.keep (kp _ (by omega))
      have Z := Z.keep (kp _ (by omega))
      have M := M.keep (fun g h1 _ => kp g (by omega))
      have B1 : Below w.heap.size w s1 := by rw [hs1]; exact B1.setCell (p := ⟨q, 7, none⟩) (by show w.heap.size ≤ q; omega) _
      have v1 : s1.heap.size = p1.heap.size := by rw [hs1]; simp
      have v1 := Nat.le_of_eq v1.symm
      have OG := OG.keep (fun g e => kp g (by have := (loG g e).1; omega))
      have ON := ON.keep (fun g e => kp g (by have := (loN g e).1; omega))
      have V2 : BT s1 x := V0.later' (fun g hg => (B1.block g hg))
      clear kp hs1
      have cc := A2
      obtain ⟨a0, a1, a2, a3, a4, a5, a6, a7, a8, a9⟩ := cc
      go_wp2_with fail
      go_at_call 102
      clear a0 a1 a2 a3 a4 a5 a6 a7 a8 a9
      refine (He x.aL x.cL x.ln s1 V2.i (by have := V2.bi; omega)).mono ?_
      rintro e p2 ⟨bL, dL, rfl, OL, kq⟩
      have loL := OL.lt
      have A2 := A2.below kq A2.lt
      have V2 := V2.later kq
      have Q := Q.below kq Q.lt
      have Z := Z.below kq Z.lt
      have M := M.below kq (by omega)
      have B1 := B1.trans (kq.mono (by omega))
      have t2 := kq.size
      have ON := ON.later kq
      have OG := OG.later kq
      clear kq
      have cc := Q
      obtain ⟨⟨a0, a1, a2, a3, a4, a5, a6, a7, a8, a9⟩, af⟩ := cc
      have ff := af 8
      clear af
      go_upto_region 11 with fail
      clear a0 a1 a2 a3 a4 a5 a6 a7 a8 a9 ff
      obtain ⟨s2, hs2⟩ : ∃ y_, y_ = p2.setCell ⟨q, 8, none⟩ (.slice bL x.ln.length dL) := ⟨_, rfl⟩
      rw [← hs2]
      have kp : ∀ k_, k_ ≠ q → s2.heap[k_]? = p2.heap[k_]? := fun k_ hk_ => by rw [hs2]; exact AF hk_
      have Q := Q.sL x.ln bL x.ln.length dL rfl
      rw [← hs2] at Q
      have A2 := A2.keep (kp _ (by omega))
      have Z := Z.keep (kp _ (by omega))
      have M := M.keep (fun g h1 _ => kp g (by omega))
      have B1 : Below w.heap.size w s2 := by rw [hs2]; exact B1.setCell (p := ⟨q, 8, none⟩) (by show w.heap.size ≤ q; omega) _
      have v2 : s2.heap.size = p2.heap.size := by rw [hs2]; simp
      have v2 := Nat.le_of_eq v2.symm
      have OL := OL.keep (fun g e => kp g (by have := (loL g e).1; omega))
      have ON := ON.keep (fun g e => kp g (by have := (loN g e).1; omega))
      have OG := OG.keep (fun g e => kp g (by have := (loG g e).1; omega))
      have V2 : BT s2 x := V0.later' (fun g hg => (B1.block g hg))
      clear kp hs2
      have cc := A2
      obtain ⟨a0, a1, a2, a3, a4, a5, a6, a7, a8, a9⟩ := cc
      go_wp2_with fail
      go_at_call 103
      clear a0 a1 a2 a3 a4 a5 a6 a7 a8 a9
      refine (Jt x.aS x.cS x.sd s2 V2.s (by have := V2.bs; omega)).mono ?_
      rintro e p3 ⟨bS, dS, rfl, OS, kq⟩
      have loS := OS.lt
      have A2 := A2.below kq A2.lt
      have V2 := V2.later kq
      have Q := Q.below kq Q.lt
      have Z := Z.below kq Z.lt
      have M := M.below kq (by omega)
      have B1 := B1.trans (kq.mono (by omega))
      have t3 := kq.size
      have ON := ON.later kq
      have OG := OG.later kq
      have OL := OL.later kq
      clear kq
      have cc := Q
      obtain ⟨⟨a0, a1, a2, a3, a4, a5, a6, a7, a8, a9⟩, af⟩ := cc
      have ff := af 9
      clear af
      go_upto_region 12 with fail
      clear a0 a1 a2 a3 a4 a5 a6 a7 a8 a9 ff
      obtain ⟨s3, hs3⟩ : ∃ y_, y_ = p3.setCell ⟨q, 9, none⟩ (.slice bS x.sd.length dS) := ⟨_, rfl⟩
      rw [← hs3]
      have kp : ∀ k_, k_ ≠ q → s3.heap[k_]? = p3.heap[k_]? := fun k_ hk_ => by rw [hs3]; exact AF hk_
      have Q := Q.sS x.sd bS x.sd.length dS rfl
      rw [← hs3] at Q
      have A2 := A2.keep (kp _ (by omega))
      have Z := Z.keep (kp _ (by omega))
      have M := M.keep (fun g h1 _ => kp g (by omega))
      have B1 : Below w.heap.size w s3 := by rw [hs3]; exact B1.setCell (p := ⟨q, 9, none⟩) (by show w.heap.size ≤ q; omega) _
      have v3 : s3.heap.size = p3.heap.size := by rw [hs3]; simp
      have v3 := Nat.le_of_eq v3.symm
      have OS := OS.keep (fun g e => kp g (by have := (loS g e).1; omega))
      have ON := ON.keep (fun g e => kp g (by have := (loN g e).1; omega))
      have OG := OG.keep (fun g e => kp g (by have := (loG g e).1; omega))
      have OL := OL.keep (fun g e => kp g (by have := (loL g e).1; omega))
      clear kp hs3
      obtain ⟨z, hz⟩ : ∃ z : AG, z = { x with two := T, aT := aT, cT := cT, net := x.net, aN := bN, cN := dN, ga := x.ga, aG := bG, cG := dG, ln := x.ln, aL := bL, cL := dL, sd := x.sd, aS := bS, cS := dS } := ⟨_, rfl⟩
      rw [← hz] at Q
      have hP : Hid (z.p = x.p) := by unfold Hid; rw [hz]; unfold AG.p; simp only; rw [hTp.out]
      have hN : Cx (q + 1) hm s3.heap.size s3 z := by
        rw [hz]
        exact ⟨M, ON.base (by omega), OG.base (by omega), OL.base (by omega), OS.base (by omega), fun g e => (ON.lt g e).2, fun g e => (OG.lt g e).2, fun g e => (OL.lt g e).2, fun g e => (OS.lt g e).2, by omega, by omega⟩
      clear hz hTp M ON OG OL OS
      obtain ⟨W9, hW9⟩ : ∃ y_, y_ = ((((((((((s3.setCell ⟨(w.heap.size + 1), 0, none⟩ (.int .i64 z.id)).setCell ⟨(w.heap.size + 1), 1, none⟩ (.int .i64 z.po)).setCell ⟨(w.heap.size + 1), 2, none⟩ (.int .i64 z.rg.ep)).setCell ⟨(w.heap.size + 1), 3, none⟩ (.int .i64 z.rg.ow)).setCell ⟨(w.heap.size + 1), 4, none⟩ (.int .i64 z.rg.pa)).setCell ⟨(w.heap.size + 1), 5, none⟩ (.slice z.aT z.two.length z.cT)).setCell ⟨(w.heap.size + 1), 6, none⟩ (.slice z.aN z.net.length z.cN)).setCell ⟨(w.heap.size + 1), 7, none⟩ (.slice z.aG z.ga.length z.cG)).setCell ⟨(w.heap.size + 1), 8, none⟩ (.slice z.aL z.ln.length z.cL)).setCell ⟨(w.heap.size + 1), 9, none⟩ (.slice z.aS z.sd.length z.cS)) := ⟨_, rfl⟩
      have z9 : s3.heap.size ≤ W9.heap.size := by rw [hW9]; simp
      have hN9 : Cx w.heap.size hm W9.heap.size W9 z := by
        have h := hN.keep (w' := W9) (fun g h1 h2 => by rw [hW9]; exact Am s3 (w.heap.size + 1) g z (by omega))
        exact ⟨h.t.wide (by omega) (Nat.le_refl _), h.n, h.g, h.i, h.s, fun g e => Nat.lt_of_lt_of_le (h.nh g e) z9, fun g e => Nat.lt_of_lt_of_le (h.gh g e) z9, fun g e => Nat.lt_of_lt_of_le (h.ih g e) z9, fun g e => Nat.lt_of_lt_of_le (h.sh g e) z9, by omega, Nat.le_trans h.mh z9⟩
      have B9 : Below w.heap.size w W9 := by rw [hW9]; exact Bm (q := w.heap.size + 1) z B1 (by omega)
      clear hN z9
      obtain ⟨⟨r0, r1, r2, r3, r4, r5, r6, r7, r8, r9⟩, rf⟩ := Z
      dsimp only [AG.zero] at r0 r1 r2 r3 r4 r5 r6 r7 r8 r9
      have g0 := rf 0
      have g1 := rf 1
      have g2 := rf 2
      have g3 := rf 3
      have g4 := rf 4
      have g5 := rf 5
      have g6 := rf 6
      have g7 := rf 7
      have g8 := rf 8
      have g9 := rf 9
      clear rf
      have cc := Q
      obtain ⟨⟨a0, a1, a2, a3, a4, a5, a6, a7, a8, a9⟩, af⟩ := cc
      clear af
      go_wp2
      refine bodyPost_ret (v := .agg #[.int .i64 z.id, .int .i64 z.po, .int .i64 z.rg.ep, .int .i64 z.rg.ow, .int .i64 z.rg.pa, .slice z.aT z.two.length z.cT, .slice z.aN z.net.length z.cN, .slice z.aG z.ga.length z.cG, .slice z.aL z.ln.length z.cL, .slice z.aS z.sd.length z.cS]) (by simp [results, results59, go_sem, *]) rfl ⟨z, hm, rfl, hP.out, by rw [← hW9]; exact hN9, by rw [← hW9]; exact B9⟩
end Go.Proofs.YtjmnaeeknomiaaaGreat
