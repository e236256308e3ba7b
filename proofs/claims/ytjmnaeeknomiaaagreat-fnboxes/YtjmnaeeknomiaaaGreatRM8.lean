/-   impl.BoxNew, walked. Bridges drawn: right ones. -/
import Derived.Test.YtjmnaeeknomiaaaGreatRM13
import Derived.Test.YtjmnaeeknomiaaaGreatRM25
namespace Go.Proofs.YtjmnaeeknomiaaaGreat
open Go.ChangeShapes Go.WideShapes Go.ChangeAt Go.RowKit
open Go.ChangeMaps (open_string shut_string)
set_option linter.unusedVariables false
set_option maxRecDepth 100000
set_option maxHeartbeats 32000000
set_option linter.unusedSimpArgs false
open Go.Proofs.Tryz
attribute [local go_sem] ji ja mc
theorem JT (ad ad' : Option Addr) (cap cap' : Nat) (L : List Bool) (w : World) (hv : AH Az w ad L) (hv' : AH Az w ad' L) (hl : L.length ≤ 1048576) :
  Calls prog 45 #[.slice ad L.length cap, .slice ad' L.length cap'] w fun e w' => e = .returned (.bool true) ∧ Bw w w' := by
 go_enter func45, ntmps45
 go_wp2
 go_loopw [5] (fun i wr => ∃ k : Nat, k ≤ L.length ∧ i = .int .i64 (k : Int) ∧ Below w.heap.size w wr) (fun i _ => L.length - (intOf i).toNat)
 case atStart => exact ⟨0, Nat.zero_le _, rfl, Below.refl _ _⟩
 case round =>
  obtain ⟨k, hk, rfl, K⟩ := hrel
  have qA := hv.below K (hv.lt Bj (by omega))
  have qC := hv'.below K (hv'.lt Bj (by omega))
  by_cases hlt : k < L.length
  ·
   obtain ⟨bA, oA, rfl, _⟩ := qA (by omega)
   obtain ⟨bC, oC, rfl, _⟩ := qC (by omega)
   obtain ⟨o, ho⟩ := AC (L.getD k false)
   have hA : ∀ Y, Bw wr Y → Y.cell? (ja bA (oA + k * 1)) = some (.bool o) := fun Y hY => by rw [ho]; exact ((qA.below hY (qA.lt Bj (by omega))).at_ Bj false hlt 0 _ rfl)
   have hC : ∀ Y, Bw wr Y → Y.cell? (ja bC (oC + k * 1)) = some (.bool o) := fun Y hY => by rw [ho]; exact ((qC.below hY (qC.lt Bj (by omega))).at_ Bj false hlt 0 _ rfl)
   clear ho
   go_upto_region 6 with fail
   refine AV (fun Y => Bw wr Y) fun u0 hb0 => ?_
   refine tw 0 17 (.slice (some (ja bA oA)) L.length cap) ?_
   refine tw 1 18 (ji (k : Int)) ?_
   refine tw 2 19 (.pointer (some (ja bA (oA + k * 1)))) ?_ (hy := by intro Y hSw; go_simp; try omega)
   refine tw 3 20 (.bool o) ?_ (hy := by intro Y hSw; have X := hA Y hSw; rw [Nat.mul_one] at X; go_simp)
   refine tw 4 21 (.slice (some (ja bC oC)) L.length cap') ?_
   refine tw 5 22 (ji (k : Int)) ?_
   refine tw 6 23 (.pointer (some (ja bC (oC + k * 1)))) ?_ (hy := by intro Y hSw; go_simp; try omega)
   refine tw 7 24 (.bool o) ?_ (hy := by intro Y hSw; have X := hC Y hSw; rw [Nat.mul_one] at X; go_simp)
   refine tw 8 25 (.bool false) ?_
   refine AR ?_
   go_wp2
   go_roundw
   case rel => exact ⟨k + 1, by omega, by go_num, AE K hb0⟩
   case measure => simp [intOf]; omega
  obtain rfl : k = L.length := by omega
  go_wp2
  go_ret
  exact ⟨rfl, K⟩
theorem G6 (ad ad' : Option Addr) (cap cap' : Nat) (L : List Ik) (w : World) (hv : AH AO w ad L) (hv' : AH AO w ad' L) (hl : L.length ≤ 1048576) :
  Calls prog 46 #[.slice ad L.length cap, .slice ad' L.length cap'] w fun e w' => e = .returned (.bool true) ∧ Bw w w' := by
 go_enter func46, ntmps46
 go_wp2
 go_loopw [5] (fun i wr => ∃ k : Nat, k ≤ L.length ∧ i = .int .i64 (k : Int) ∧ Below w.heap.size w wr) (fun i _ => L.length - (intOf i).toNat)
 case atStart => exact ⟨0, Nat.zero_le _, rfl, Below.refl _ _⟩
 case round =>
  obtain ⟨k, hk, rfl, K⟩ := hrel
  have qA := hv.below K (hv.lt AT (by omega))
  have qC := hv'.below K (hv'.lt AT (by omega))
  by_cases hlt : k < L.length
  ·
   obtain ⟨bA, oA, rfl, _⟩ := qA (by omega)
   obtain ⟨bC, oC, rfl, _⟩ := qC (by omega)
   obtain ⟨o, ho⟩ := AC (L.getD k Ik.nil)
   have hA : ∀ Y, Bw wr Y → Bk Y bA (oA + k * 8) o := fun Y hY => by rw [ho]; exact EA ((qA.below hY (qA.lt AT (by omega))).at_ AT Ik.nil hlt)
   have hC : ∀ Y, Bw wr Y → Bk Y bC (oC + k * 8) o := fun Y hY => by rw [ho]; exact EA ((qC.below hY (qC.lt AT (by omega))).at_ AT Ik.nil hlt)
   clear ho
   go_upto_region 6 with fail
   refine AV (fun Y => Bw wr Y) fun u0 hb0 => ?_
   refine tw 0 17 (.slice (some (ja bA oA)) L.length cap) ?_
   refine tw 1 18 (ji (k : Int)) ?_
   refine tw 2 19 (.pointer (some (ja bA (oA + k * 8)))) ?_ (hy := by intro Y hSw; go_simp; try omega)
   refine tw 3 20 (.agg #[ji o.k, ji o.q, ji o.r, ji o.c, ji o.b, ji o.p, ji o.h, .bool o.up]) ?_ (hy := by intro Y hSw; have X := (hA Y hSw).all; go_simp)
   refine tw 4 21 (.slice (some (ja bC oC)) L.length cap') ?_
   refine tw 5 22 (ji (k : Int)) ?_
   refine tw 6 23 (.pointer (some (ja bC (oC + k * 8)))) ?_ (hy := by intro Y hSw; go_simp; try omega)
   refine tw 7 24 (.agg #[ji o.k, ji o.q, ji o.r, ji o.c, ji o.b, ji o.p, ji o.h, .bool o.up]) ?_ (hy := by intro Y hSw; have X := (hC Y hSw).all; go_simp)
   refine tw 8 25 (.bool false) ?_
   refine AR ?_
   go_wp2
   go_roundw
   case rel => exact ⟨k + 1, by omega, by go_num, AE K hb0⟩
   case measure => simp [intOf]; omega
  obtain rfl : k = L.length := by omega
  go_wp2
  go_ret
  exact ⟨rfl, K⟩
theorem JS (m : Mi) (ad ad' : Option Addr) (cap cap' : Nat) (w : World) (hv : AH AO w ad m.lg) (hv' : AH AO w ad' m.lg) (hl : m.lg.length ≤ 1048576) :
  Calls prog 47 #[.agg (mc m ad cap), .agg (mc m ad' cap')] w fun e w' => e = .returned (.bool true) ∧ Bw w w' := by
 obtain ⟨y0, hy0, k0⟩ := AI w (Obj.cells (mc m ad cap) 52)
 have A0 : Ac y0 w.heap.size m (.slice ad m.lg.length cap) := by rw [hy0]; constructor <;> simp [go_sem]
 obtain ⟨y, hy, k1⟩ := AI y0 (Obj.cells (mc m ad' cap') 52)
 have A1 : Ac y y0.heap.size m (.slice ad' m.lg.length cap') := by rw [hy]; constructor <;> simp [go_sem]
 have A0 := A0.below k1 A0.lt
 have e0 : y0.heap.size = w.heap.size + 1 := by rw [hy0]; simp
 rw [e0] at A1
 clear e0
 have B0 := AE k0 k1
 have S0 := A0.lt
 have S1 := A1.lt
 clear k0 k1
 have hv := hv.below B0 (hv.lt AT (by omega))
 have hv' := hv'.below B0 (hv'.lt AT (by omega))
 go_enter func47, ntmps47
 go_wp2_with fail
 go_at_call 46
 rw [← hy0, ← hy]
 clear hy0 hy
 refine (G6 ad ad' cap cap' m.lg y hv hv' hl).mono ?_
 rintro e w1 ⟨rfl, k1⟩
 have B1 := AE B0 k1
 have A0 := (A0.below k1 S0).all
 have A1 := (A1.below k1 S1).all
 clear k1 B0
 go_wp2
 go_ret
 exact ⟨rfl, B1⟩
attribute [local go_sem] bc
theorem HS (x x' : AG) (w : World) (hx : BT w x) (hy : BT w x') (e : x.p = x'.p) :
  Calls prog 15 #[.agg (bc x), .agg (bc x')] w fun e w' => e = .returned (.bool true) ∧ Bw w w' := by
 obtain ⟨id, po, rg, two, aT, cT, net, aN, cN, ga, aG, cG, ln, aL, cL, sd, aS, cS⟩ := x
 obtain ⟨id_, po_, rg_, two', bT, dT, net_, bN, dN, ga_, bG, dG, ln_, bL, dL, sd_, bS, dS⟩ := x'
 simp only [AG.p, Bx.mk.injEq] at e
 obtain ⟨rfl, rfl, rfl, hm, rfl, rfl, rfl, rfl⟩ := e
 have hN : Hid (two'.length = two.length) := by have := congrArg List.length hm; simp only [List.length_map] at this; exact this.symm
 have he : Hid (∀ k, (two'.getD k AD.nil).m = (two.getD k AD.nil).m) := fun k => by
  have h := congrArg (·[k]?) hm
  simp only [List.getElem?_map] at h
  rw [List.getD_eq_getElem?_getD, List.getD_eq_getElem?_getD]
  cases h1 : two[k]? <;> cases h2 : two'[k]? <;> simp_all
 clear hm
 obtain ⟨tv, tl, nv, gv, iv, sv, bt, bl, bn, bg, bi, bs, _⟩ := hx
 obtain ⟨tv', tl', nv', gv', iv', sv', _, _, _, _, _, _, _⟩ := hy
 dsimp only at tv tl nv gv iv sv bt bl bn bg bi bs tv' tl' nv' gv' iv' sv'
 obtain ⟨y0, hy0, k0⟩ := AI w (Obj.cells (bc ⟨id, po, rg, two, aT, cT, net, aN, cN, ga, aG, cG, ln, aL, cL, sd, aS, cS⟩) 34)
 have A0 : AS y0 w.heap.size ⟨id, po, rg, two, aT, cT, net, aN, cN, ga, aG, cG, ln, aL, cL, sd, aS, cS⟩ := by rw [hy0]; exact AS.new w _ _
 obtain ⟨y, hy, k1⟩ := AI y0 (Obj.cells (bc ⟨id, po, rg, two', bT, dT, net, bN, dN, ga, bG, dG, ln, bL, dL, sd, bS, dS⟩) 34)
 have C0 : AS y y0.heap.size ⟨id, po, rg, two', bT, dT, net, bN, dN, ga, bG, dG, ln, bL, dL, sd, bS, dS⟩ := by rw [hy]; exact AS.new y0 _ _
 have A0 := A0.below k1 A0.lt
 have e0 : y0.heap.size = w.heap.size + 1 := by rw [hy0]; simp
 rw [e0] at C0
 clear e0
 have B0 := AE k0 k1
 have s0 := A0.lt
 have s1 := C0.lt
 clear k0 k1
 have tv := tv.below B0 (tv.lt Ai (by omega))
 have tv' := tv'.below B0 (tv'.lt Ai (by omega))
 have nv := nv.below B0 (nv.lt Be (by omega))
 have nv' := nv'.below B0 (nv'.lt Be (by omega))
 have gv := gv.below B0 (gv.lt Bj (by omega))
 have gv' := gv'.below B0 (gv'.lt Bj (by omega))
 have iv := iv.below B0 (iv.lt AT (by omega))
 have iv' := iv'.below B0 (iv'.lt AT (by omega))
 have sv := sv.below B0 (sv.lt BN (by omega))
 have sv' := sv'.below B0 (sv'.lt BN (by omega))
 have tl : ∀ i, i < two.length → AH AO y (two.getD i AD.nil).ad (two.getD i AD.nil).m.lg := fun i hi => (tl i hi).below B0 ((tl i hi).lt AT (by omega))
 have tl' : ∀ i, i < two'.length → AH AO y (two'.getD i AD.nil).ad (two'.getD i AD.nil).m.lg := fun i hi => (tl' i hi).below B0 ((tl' i hi).lt AT (by omega))
 have hlen := hN.out
 go_enter func15, ntmps15
 have ca := A0.all
 have cc := C0.all
 dsimp only at ca cc
 rw [hlen] at cc
 go_wp2_with fail
 go_at_call 45
 simp only [bc, hlen] at hy
 rw [← hy0, ← hy]
 clear hy0 hy ca cc
 refine (JT aG bG cG dG ga y gv gv' bg).mono ?_
 rintro e y1 ⟨rfl, k1⟩
 have ca := (A0.below k1 s0).all
 have cc := (C0.below k1 s1).all
 dsimp only at ca cc
 have iv := iv.below k1 (iv.lt AT (by omega))
 have iv' := iv'.below k1 (iv'.lt AT (by omega))
 go_wp2_with fail
 go_at_call 46
 refine (G6 aL bL cL dL ln y1 iv iv' bi).mono ?_
 rintro e y2 ⟨rfl, k2⟩
 have K := AE k1 k2
 clear ca cc k1 k2 iv iv' gv gv'
 have A := A0.below K s0
 have C := C0.below K s1
 have ca := A.all
 have cc := C.all
 dsimp only at ca cc
 go_wp2
 go_loopw [5] (fun i wr => ∃ k : Nat, k ≤ two.length ∧ i = .int .i64 (k : Int) ∧ Below y.heap.size y wr) (fun i _ => two.length - (intOf i).toNat)
 case atStart => exact ⟨0, Nat.zero_le _, rfl, K⟩
 case round =>
  obtain ⟨k, hk, rfl, K⟩ := hrel
  have A := A0.below K s0
  have C := C0.below K s1
  have sA := A.lt
  have sC := C.lt
  have ca := A.all
  dsimp only at ca
  have qA := tv.below K (tv.lt Ai (by omega))
  have qC := tv'.below K (tv'.lt Ai (by omega))
  by_cases hlt : k < two.length
  ·
   have hlt' : k < two'.length := by rw [hN.out]; exact hlt
   obtain ⟨bA, oA, eA, _⟩ := qA (by omega)
   obtain ⟨bC, oC, eC, _⟩ := qC (by rw [hN.out]; omega)
   replace eA : aT = some ⟨bA, oA, none⟩ := eA
   replace eC : bT = some ⟨bC, oC, none⟩ := eC
   subst eA eC
   obtain ⟨⟨m, aA, cA⟩, hoA⟩ := AC (two.getD k AD.nil)
   obtain ⟨⟨m_, aC, cC⟩, hoC⟩ := AC (two'.getD k AD.nil)
   obtain rfl : m_ = m := by have := he.out k; rw [← hoA, ← hoC] at this; exact this
   have hA : ∀ Y, Bw wr Y → A8 Y bA (oA + k * 7) ⟨m_, aA, cA⟩ := fun Y hY => by rw [hoA]; exact Bo ((qA.below hY (qA.lt Ai (by omega))).at_ Ai AD.nil hlt)
   have hC : ∀ Y, Bw wr Y → A8 Y bC (oC + k * 7) ⟨m_, aC, cC⟩ := fun Y hY => by rw [hoC]; exact Bo ((qC.below hY (qC.lt Ai (by omega))).at_ Ai AD.nil hlt')
   have vA : AH AO wr aA m_.lg := by
    have h := tl k hlt
    rw [← hoA] at h
    exact h.below K (h.lt AT (by omega))
   have vC : AH AO wr aC m_.lg := by
    have h := tl' k hlt'
    rw [← hoC] at h
    exact h.below K (h.lt AT (by omega))
   have vl : m_.lg.length ≤ 1048576 := by have h := bl k hlt; rw [← hoA] at h; exact h
   clear hoA hoC
   go_upto_region 6 with fail
   clear ca
   refine AV (fun Y => Bw wr Y) fun u0 hb0 => ?_
   refine tw 0 77 (.pointer (some (ja w.heap.size 5))) ?_
   refine tw 1 78 (.slice (some (ja bA oA)) two.length cT) ?_ (hy := by intro Y hSw; have X := (A.below hSw sA).all; go_simp)
   refine tw 2 79 (ji (k : Int)) ?_
   refine tw 3 80 (.pointer (some (ja bA (oA + k * 7)))) ?_ (hy := by intro Y hSw; go_simp; try omega)
   refine tw 4 81 (.agg #[.bool m_.up, ji m_.li, ji m_.ep, .slice aA m_.lg.length cA, ji m_.sd, ji m_.ac, ji m_.al]) ?_ (hy := by intro Y hSw; have X := (hA Y hSw).all; go_simp)
   refine tw 5 82 (.pointer (some (ja (w.heap.size + 1) 5))) ?_
   refine tw 6 83 (.slice (some (ja bC oC)) two.length dT) ?_ (hy := by intro Y hSw; have X := (C.below hSw sC).all; go_simp)
   refine tw 7 84 (ji (k : Int)) ?_
   refine tw 8 85 (.pointer (some (ja bC (oC + k * 7)))) ?_ (hy := by intro Y hSw; go_simp; try omega)
   refine tw 9 86 (.agg #[.bool m_.up, ji m_.li, ji m_.ep, .slice aC m_.lg.length cC, ji m_.sd, ji m_.ac, ji m_.al]) ?_ (hy := by intro Y hSw; have X := (hC Y hSw).all; go_simp)
   refine w1 10 fun Kz hKz => ?_
   go_simp
   go_at_call 47
   refine (JS m_ aA aC cA cC u0 (vA.below hb0 (vA.lt AT (by omega))) (vC.below hb0 (vC.lt AT (by omega))) vl).mono ?_
   rintro e u1 ⟨rfl, kq⟩
   have hb1 := AE hb0 kq
   clear kq
   refine hKz _ _ ⟨hb1, ?_⟩
   clear hKz Kz
   refine tw 11 88 (.bool false) ?_
   refine AR ?_
   go_wp2
   go_roundw
   case rel => exact ⟨k + 1, by omega, by go_num, AE K hb1⟩
   case measure => simp [intOf]; omega
  obtain rfl : k = two.length := by omega
  clear qA qC
  go_wp2
  go_loopw [6] (fun i wr => ∃ k : Nat, k ≤ net.length ∧ i = .int .i64 (k : Int) ∧ Below y.heap.size y wr) (fun i _ => net.length - (intOf i).toNat)
  case atStart => exact ⟨0, Nat.zero_le _, rfl, K⟩
  case round =>
   obtain ⟨k, hk, rfl, K⟩ := hrel
   have A := A0.below K s0
   have C := C0.below K s1
   have sA := A.lt
   have sC := C.lt
   have ca := A.all
   dsimp only at ca
   have qA := nv.below K (nv.lt Be (by omega))
   have qC := nv'.below K (nv'.lt Be (by omega))
   by_cases hlt : k < net.length
   ·
    obtain ⟨bA, oA, eA, _⟩ := qA (by omega)
    obtain ⟨bC, oC, eC, _⟩ := qC (by omega)
    replace eA : aN = some ⟨bA, oA, none⟩ := eA
    replace eC : bN = some ⟨bC, oC, none⟩ := eC
    subst eA eC
    obtain ⟨o, ho⟩ := AC (net.getD k Wi.nil)
    have hA : ∀ Y, Bw wr Y → CX Y bA (oA + k * 12) o := fun Y hY => by rw [ho]; exact E7 ((qA.below hY (qA.lt Be (by omega))).at_ Be Wi.nil hlt)
    have hC : ∀ Y, Bw wr Y → CX Y bC (oC + k * 12) o := fun Y hY => by rw [ho]; exact E7 ((qC.below hY (qC.lt Be (by omega))).at_ Be Wi.nil hlt)
    clear ho
    go_upto_region 11 with fail
    clear ca
    refine AV (fun Y => Bw wr Y) fun u0 hb0 => ?_
    refine tw 0 96 (.pointer (some (ja w.heap.size 6))) ?_
    refine tw 1 97 (.slice (some (ja bA oA)) net.length cN) ?_ (hy := by intro Y hSw; have X := (A.below hSw sA).all; go_simp)
    refine tw 2 98 (ji (k : Int)) ?_
    refine tw 3 99 (.pointer (some (ja bA (oA + k * 12)))) ?_ (hy := by intro Y hSw; go_simp; try omega)
    refine tw 4 100 (.agg #[ji o.fr, .bool o.ak, ji o.li, ji o.n, ji o.x.k, ji o.x.q, ji o.x.r, ji o.x.c, ji o.x.b, ji o.x.p, ji o.x.h, .bool o.x.up]) ?_ (hy := by intro Y hSw; have X := (hA Y hSw).all; go_simp)
    refine tw 5 101 (.pointer (some (ja (w.heap.size + 1) 6))) ?_
    refine tw 6 102 (.slice (some (ja bC oC)) net.length dN) ?_ (hy := by intro Y hSw; have X := (C.below hSw sC).all; go_simp)
    refine tw 7 103 (ji (k : Int)) ?_
    refine tw 8 104 (.pointer (some (ja bC (oC + k * 12)))) ?_ (hy := by intro Y hSw; go_simp; try omega)
    refine tw 9 105 (.agg #[ji o.fr, .bool o.ak, ji o.li, ji o.n, ji o.x.k, ji o.x.q, ji o.x.r, ji o.x.c, ji o.x.b, ji o.x.p, ji o.x.h, .bool o.x.up]) ?_ (hy := by intro Y hSw; have X := (hC Y hSw).all; go_simp)
    refine tw 10 106 (.bool false) ?_
    refine AR ?_
    go_wp2
    go_roundw
    case rel => exact ⟨k + 1, by omega, by go_num, AE K hb0⟩
    case measure => simp [intOf]; omega
   obtain rfl : k = net.length := by omega
   clear qA qC
   go_wp2
   go_loopw [7] (fun i wr => ∃ k : Nat, k ≤ sd.length ∧ i = .int .i64 (k : Int) ∧ Below y.heap.size y wr) (fun i _ => sd.length - (intOf i).toNat)
   case atStart => exact ⟨0, Nat.zero_le _, rfl, K⟩
   case round =>
    obtain ⟨k, hk, rfl, K⟩ := hrel
    have A := A0.below K s0
    have C := C0.below K s1
    have sA := A.lt
    have sC := C.lt
    have ca := A.all
    dsimp only at ca
    have qA := sv.below K (sv.lt BN (by omega))
    have qC := sv'.below K (sv'.lt BN (by omega))
    by_cases hlt : k < sd.length
    ·
     obtain ⟨bA, oA, eA, _⟩ := qA (by omega)
     obtain ⟨bC, oC, eC, _⟩ := qC (by omega)
     replace eA : aS = some ⟨bA, oA, none⟩ := eA
     replace eC : bS = some ⟨bC, oC, none⟩ := eC
     subst eA eC
     obtain ⟨o, ho⟩ := AC (sd.getD k Ou.nil)
     have hA : ∀ Y, Bw wr Y → Cj Y bA (oA + k * 8) o := fun Y hY => by rw [ho]; exact E8 ((qA.below hY (qA.lt BN (by omega))).at_ BN Ou.nil hlt)
     have hC : ∀ Y, Bw wr Y → Cj Y bC (oC + k * 8) o := fun Y hY => by rw [ho]; exact E8 ((qC.below hY (qC.lt BN (by omega))).at_ BN Ou.nil hlt)
     clear ho
     go_upto_region 16 with fail
     clear ca
     refine AV (fun Y => Bw wr Y) fun u0 hb0 => ?_
     refine tw 0 114 (.pointer (some (ja w.heap.size 9))) ?_
     refine tw 1 115 (.slice (some (ja bA oA)) sd.length cS) ?_ (hy := by intro Y hSw; have X := (A.below hSw sA).all; go_simp)
     refine tw 2 116 (ji (k : Int)) ?_
     refine tw 3 117 (.pointer (some (ja bA (oA + k * 8)))) ?_ (hy := by intro Y hSw; go_simp; try omega)
     refine tw 4 118 (.agg #[ji o.k, ji o.pt, ji o.r, ji o.c, ji o.b, ji o.p, ji o.h, .bool o.on]) ?_ (hy := by intro Y hSw; have X := (hA Y hSw).all; go_simp)
     refine tw 5 119 (.pointer (some (ja (w.heap.size + 1) 9))) ?_
     refine tw 6 120 (.slice (some (ja bC oC)) sd.length dS) ?_ (hy := by intro Y hSw; have X := (C.below hSw sC).all; go_simp)
     refine tw 7 121 (ji (k : Int)) ?_
     refine tw 8 122 (.pointer (some (ja bC (oC + k * 8)))) ?_ (hy := by intro Y hSw; go_simp; try omega)
     refine tw 9 123 (.agg #[ji o.k, ji o.pt, ji o.r, ji o.c, ji o.b, ji o.p, ji o.h, .bool o.on]) ?_ (hy := by intro Y hSw; have X := (hC Y hSw).all; go_simp)
     refine tw 10 124 (.bool false) ?_
     refine AR ?_
     go_wp2
     go_roundw
     case rel => exact ⟨k + 1, by omega, by go_num, AE K hb0⟩
     case measure => simp [intOf]; omega
    obtain rfl : k = sd.length := by omega
    clear qA qC
    go_wp2
    go_ret
    exact ⟨rfl, AE B0 K⟩
theorem KG (id po : Int) (w : World) :
    Calls prog 7 #[.int .i64 id, .int .i64 po] w fun e w' => ∃ x2 : AG, (e = .returned (.tuple #[.agg #[.int .i64 x2.id, .int .i64 x2.po, .int .i64 x2.rg.ep, .int .i64 x2.rg.ow, .int .i64 x2.rg.pa, .slice x2.aT x2.two.length x2.cT, .slice x2.aN x2.net.length x2.cN, .slice x2.aG x2.ga.length x2.cG, .slice x2.aL x2.ln.length x2.cL, .slice x2.aS x2.sd.length x2.cS], .bool (Aq id po)]) ∧ x2.p = Dh id po ∧ Ea x2) ∧ (∃ mid, Cx w.heap.size mid w'.heap.size w' x2) ∧ Below w.heap.size w w' := by
  obtain ⟨y, hy⟩ : ∃ y, y = w.alloc (Obj.cells #[.int .i64 0, .int .i64 0, .int .i64 0, .int .i64 0, .int .i64 0, .slice none 0 0, .slice none 0 0, .slice none 0 0, .slice none 0 0, .slice none 0 0] 34) := ⟨_, rfl⟩
  have B0 : Below w.heap.size w y := by rw [hy]; exact Ae _
  have Z : AN y w.heap.size AG.zero := by rw [hy]; refine ⟨?_, fun i => ?_⟩; constructor <;> simp [go_sem, AG.zero]; simp [go_sem]
  go_enter func7, ntmps7
  go_wp2_with fail
  go_at_call 13
  rw [← hy]
  clear hy
  refine (FH id po y).mono ?_
  rintro e u0 ⟨ad', cap', rfl, O', k0⟩
  have Z := Z.below k0 Z.lt
  have B1 := B0.trans (k0.mono B0.size)
  have s0 := k0.size
  have zl := Z.lt
  clear k0 B0
  obtain ⟨u1, hu1⟩ : ∃ y_, y_ = u0.alloc (Obj.cells #[.int .i64 (BJ id po), .slice ad' (AX id po).length cap'] 42) := ⟨_, rfl⟩
  have kk : Below u0.heap.size u0 u1 := by rw [hu1]; exact Ae _
  have BB : As u1 u0.heap.size (BJ id po) (.slice ad' (AX id po).length cap') := by rw [hu1]; exact As.new u0 _ _ _
  have Z := Z.below kk Z.lt
  have O' := O'.later kk
  have B2 := B1.trans (kk.mono B1.size)
  have s1 := BB.lt
  clear kk B1
  go_upto_region 2 with fail
  rw [← hu1]
  clear hu1
  obtain ⟨qb, hqb⟩ : ∃ q, q = u0.heap.size := ⟨_, rfl⟩
  rw [← hqb] at BB s1 ⊢
  replace hqb := Nat.le_of_eq hqb.symm
  cases h1 : Aq id po
  · have hX : Hid (Dh id po = AG.zero.p) := by unfold Hid Dh; rw [h1]; rfl
    replace h1 : Hid _ := h1
    obtain ⟨W9, hW9⟩ : ∃ y_, y_ = ((((((((((u1.setCell ⟨w.heap.size, 0, none⟩ (.int .i64 0)).setCell ⟨w.heap.size, 1, none⟩ (.int .i64 0)).setCell ⟨w.heap.size, 2, none⟩ (.int .i64 0)).setCell ⟨w.heap.size, 3, none⟩ (.int .i64 0)).setCell ⟨w.heap.size, 4, none⟩ (.int .i64 0)).setCell ⟨w.heap.size, 5, none⟩ (.slice none 0 0)).setCell ⟨w.heap.size, 6, none⟩ (.slice none 0 0)).setCell ⟨w.heap.size, 7, none⟩ (.slice none 0 0)).setCell ⟨w.heap.size, 8, none⟩ (.slice none 0 0)).setCell ⟨w.heap.size, 9, none⟩ (.slice none 0 0)) := ⟨_, rfl⟩
    have ZZ : AN W9 w.heap.size AG.zero := by rw [hW9]; exact Z.put AG.zero
    have kp : ∀ k, k ≠ w.heap.size → W9.heap[k]? = u1.heap[k]? := fun k hk => by rw [hW9, AF hk, AF hk, AF hk, AF hk, AF hk, AF hk, AF hk, AF hk, AF hk, AF hk]
    have B9 : Below w.heap.size w W9 := by rw [hW9]; exact ((((((((((B2.setCell (p := ⟨w.heap.size, 0, none⟩) (Nat.le_refl _) _).setCell (p := ⟨w.heap.size, 1, none⟩) (Nat.le_refl _) _).setCell (p := ⟨w.heap.size, 2, none⟩) (Nat.le_refl _) _).setCell (p := ⟨w.heap.size, 3, none⟩) (Nat.le_refl _) _).setCell (p := ⟨w.heap.size, 4, none⟩) (Nat.le_refl _) _).setCell (p := ⟨w.heap.size, 5, none⟩) (Nat.le_refl _) _).setCell (p := ⟨w.heap.size, 6, none⟩) (Nat.le_refl _) _).setCell (p := ⟨w.heap.size, 7, none⟩) (Nat.le_refl _) _).setCell (p := ⟨w.heap.size, 8, none⟩) (Nat.le_refl _) _).setCell (p := ⟨w.heap.size, 9, none⟩) (Nat.le_refl _) _)
    have s9 : W9.heap.size = u1.heap.size := by rw [hW9]; simp
    have hM : ∃ mid, Cx w.heap.size mid W9.heap.size W9 AG.zero := ⟨_, Hh B9.size⟩
    obtain ⟨⟨t0, t1, t2, t3, t4, t5, t6, t7, t8, t9⟩, tf⟩ := ZZ
    clear tf
    try dsimp only [AG.zero] at t0 t1 t2 t3 t4 t5 t6 t7 t8 t9
    try rw [show CE.length = 2 from rfl] at t5
    have cc := Z
    obtain ⟨⟨z0, z1, z2, z3, z4, z5, z6, z7, z8, z9⟩, zf⟩ := cc
    have e0 := zf 0
    have e1 := zf 1
    have e2 := zf 2
    have e3 := zf 3
    have e4 := zf 4
    have e5 := zf 5
    have e6 := zf 6
    have e7 := zf 7
    have e8 := zf 8
    have e9 := zf 9
    clear zf
    go_wp2
    refine bodyPost_ret (v := .tuple #[.agg #[.int .i64 0, .int .i64 0, .int .i64 0, .int .i64 0, .int .i64 0, .slice none 0 0, .slice none 0 0, .slice none 0 0, .slice none 0 0, .slice none 0 0], .bool false]) (by simp [results, results7, go_sem, *]) rfl ⟨AG.zero, ⟨by rw [h1.out]; rfl, hX.out.symm, GC⟩, ?_, ?_⟩
    · rw [← hW9]; exact hM
    · rw [← hW9]; exact B9
  · have hX : Hid (Dh id po = EK id po) := by unfold Hid Dh; rw [h1]; rfl
    replace h1 : Hid _ := h1
    have cc := BB
    obtain ⟨bb0, bb1⟩ := cc
    obtain ⟨u2, hu2⟩ : ∃ y_, y_ = u1.alloc (Obj.cells #[.bool true, .int .i64 1, .int .i64 1, .slice none 0 0, .int .i64 0, .int .i64 0, .int .i64 0, .bool true, .int .i64 2, .int .i64 0, .slice none 0 0, .int .i64 0, .int .i64 0, .int .i64 0] 52) := ⟨_, rfl⟩
    have OT : CC u1.heap.size (u1.heap.size + 1) u2 (.slice (some ⟨u1.heap.size, 0, none⟩) 2 2) CE := by rw [hu2]; exact HR u1
    have kk : Below u1.heap.size u1 u2 := by rw [hu2]; exact Ae _
    have Z := Z.below kk Z.lt
    have BB := BB.below kk BB.lt
    have O' := O'.later kk
    have B3 := B2.trans (kk.mono B2.size)
    have s2 : u1.heap.size < u2.heap.size := by rw [hu2]; simp
    clear kk B2
    go_wp2_with fail
    go_at_call 34
    rw [← hu2]
    clear hu2 bb0 bb1
    obtain ⟨q2, hq2⟩ : ∃ q, q = u1.heap.size := ⟨_, rfl⟩
    rw [← hq2] at OT s2 ⊢
    replace hq2 := Nat.le_of_eq hq2.symm
    refine (HI (BJ id po) ad' cap' (AX id po) u2 O'.view.2 (Nat.le_trans (FC id po) (by omega))).mono ?_
    rintro e u3 ⟨aG, cG, rfl, OG, k3⟩
    have Z := Z.below k3 Z.lt
    have OT := OT.below k3 (by omega)
    have B4 := B3.trans (k3.mono B3.size)
    have s3 := k3.size
    clear k3 B3
    obtain ⟨W9, hW9⟩ : ∃ y_, y_ = ((((((((((u3.setCell ⟨w.heap.size, 0, none⟩ (.int .i64 id)).setCell ⟨w.heap.size, 1, none⟩ (.int .i64 po)).setCell ⟨w.heap.size, 2, none⟩ (.int .i64 1)).setCell ⟨w.heap.size, 3, none⟩ (.int .i64 0)).setCell ⟨w.heap.size, 4, none⟩ (.int .i64 0)).setCell ⟨w.heap.size, 5, none⟩ (.slice (some ⟨q2, 0, none⟩) 2 2)).setCell ⟨w.heap.size, 6, none⟩ (.slice none 0 0)).setCell ⟨w.heap.size, 7, none⟩ (.slice aG (BH (AX id po)).length cG)).setCell ⟨w.heap.size, 8, none⟩ (.slice none 0 0)).setCell ⟨w.heap.size, 9, none⟩ (.slice none 0 0)) := ⟨_, rfl⟩
    have ZZ : AN W9 w.heap.size ⟨id, po, ⟨1, 0, 0⟩, CE, some ⟨q2, 0, none⟩, 2, [], none, 0, BH (AX id po), aG, cG, [], none, 0, [], none, 0⟩ := by rw [hW9]; exact Z.put ⟨id, po, ⟨1, 0, 0⟩, CE, some ⟨q2, 0, none⟩, 2, [], none, 0, BH (AX id po), aG, cG, [], none, 0, [], none, 0⟩
    have kp : ∀ k, k ≠ w.heap.size → W9.heap[k]? = u3.heap[k]? := fun k hk => by rw [hW9, AF hk, AF hk, AF hk, AF hk, AF hk, AF hk, AF hk, AF hk, AF hk, AF hk]
    have B9 : Below w.heap.size w W9 := by rw [hW9]; exact ((((((((((B4.setCell (p := ⟨w.heap.size, 0, none⟩) (Nat.le_refl _) _).setCell (p := ⟨w.heap.size, 1, none⟩) (Nat.le_refl _) _).setCell (p := ⟨w.heap.size, 2, none⟩) (Nat.le_refl _) _).setCell (p := ⟨w.heap.size, 3, none⟩) (Nat.le_refl _) _).setCell (p := ⟨w.heap.size, 4, none⟩) (Nat.le_refl _) _).setCell (p := ⟨w.heap.size, 5, none⟩) (Nat.le_refl _) _).setCell (p := ⟨w.heap.size, 6, none⟩) (Nat.le_refl _) _).setCell (p := ⟨w.heap.size, 7, none⟩) (Nat.le_refl _) _).setCell (p := ⟨w.heap.size, 8, none⟩) (Nat.le_refl _) _).setCell (p := ⟨w.heap.size, 9, none⟩) (Nat.le_refl _) _)
    have s9 : W9.heap.size = u3.heap.size := by rw [hW9]; simp
    have OT := OT.keep (w' := W9) (fun g h1 h2 => kp g (by omega))
    have OG := OG.keep (w' := W9) (fun g e => kp g (by have := (OG.lt g e).1; omega))
    have hM : ∃ mid, Cx w.heap.size mid W9.heap.size W9 ⟨id, po, ⟨1, 0, 0⟩, CE, some ⟨q2, 0, none⟩, 2, [], none, 0, BH (AX id po), aG, cG, [], none, 0, [], none, 0⟩ := by
      refine ⟨u2.heap.size, OT.wide (by omega) (by omega), AB.nilM, OG, AB.nilM, AB.nilM, fun b e => (by cases e), fun b e => (OG.lt b e).2, fun b e => (by cases e), fun b e => (by cases e), by omega, by omega⟩
    obtain ⟨⟨t0, t1, t2, t3, t4, t5, t6, t7, t8, t9⟩, tf⟩ := ZZ
    clear tf
    try dsimp only [AG.zero] at t0 t1 t2 t3 t4 t5 t6 t7 t8 t9
    try rw [show CE.length = 2 from rfl] at t5
    have cc := Z
    obtain ⟨⟨z0, z1, z2, z3, z4, z5, z6, z7, z8, z9⟩, zf⟩ := cc
    have e0 := zf 0
    have e1 := zf 1
    have e2 := zf 2
    have e3 := zf 3
    have e4 := zf 4
    have e5 := zf 5
    have e6 := zf 6
    have e7 := zf 7
    have e8 := zf 8
    have e9 := zf 9
    clear zf
    go_wp2
    refine bodyPost_ret (v := .tuple #[.agg #[.int .i64 id, .int .i64 po, .int .i64 1, .int .i64 0, .int .i64 0, .slice (some ⟨q2, 0, none⟩) 2 2, .slice none 0 0, .slice aG (BH (AX id po)).length cG, .slice none 0 0, .slice none 0 0], .bool true]) (by simp [results, results7, go_sem, *]) rfl ⟨⟨id, po, ⟨1, 0, 0⟩, CE, some ⟨q2, 0, none⟩, 2, [], none, 0, BH (AX id po), aG, cG, [], none, 0, [], none, 0⟩, ⟨by rw [h1.out]; rfl, (GL id po q2 aG cG).trans hX.out.symm, FB id po q2 aG cG⟩, ?_, ?_⟩
    · rw [← hW9]; exact hM
    · rw [← hW9]; exact B9
theorem AB.other {X : Type} {enc : X → List Value} {n : Nat} {T : TypeId} {base q i : Nat} {w : World} {v u : Value} {L : List X} (h : AB enc n T base w v L) (hq : q < base) : AB enc n T base (w.setCell ⟨q, i, none⟩ u) v L :=
  h.keep fun k e => AF (by have := (h.lt k e).1; show k ≠ q; omega)
theorem AU.other {w : World} {q q' i : Nat} {id : Int} {v u : Value} (h : AU w q id v) (hne : q ≠ q') : AU (w.setCell ⟨q', i, none⟩ u) q id v := h.keep (AF hne)
theorem AU.grown {w w' : World} {q cb : Nat} {id : Int} {v : Value} (h : AU w q id v) (g : w.grownBy w' (some cb)) (hne : q ≠ cb) : AU w' q id v := h.keep (g.block q h.lt (by simpa using hne))
def Kh (m : Nat) (w : World) (cb : Nat) (ad : Option Addr) (len cap : Nat) (f : Nat → Int) (e : Ending) (w' : World) : Prop := ∃ id ad' cap' L, e = .returned (.agg #[.int .i64 id, .slice ad' (List.length L) cap']) ∧ (1 ≤ L.length ∧ L.length ≤ m) ∧ AB AL 11 70 w.heap.size w' (.slice ad' L.length cap') L ∧ BE w' cb ad len cap f ∧ w.grownBy w' (some cb)
theorem Ig {id n : Int} (h1 : 1 ≤ id) (h2 : id ≤ 9) (h3 : 1 ≤ n) (h4 : n ≤ 4) : (AX id n).length = n.toNat := by
  unfold AX
  rw [if_pos (by unfold Aq; rw [decide_eq_true (show 1 ≤ id ∧ id ≤ 9 from ⟨h1, h2⟩), decide_eq_true (show 1 ≤ n ∧ n ≤ 4 from ⟨h3, h4⟩)]; rfl), List.length_replicate]
theorem Jg {cb : Nat} {ad : Option Addr} {len cap : Nat} {f : Nat → Int} (w : World) (hs : BE w cb ad len cap f) (hcb : cb < w.heap.size) : Calls prog 40 #[.pointer (some ⟨cb, 0, none⟩)] w fun e w' => Kh 4 w cb ad len cap f e w' := by
  obtain ⟨R, hRe⟩ : ∃ R, R = w.heap.size := ⟨_, rfl⟩
  have hR : w.heap.size ≤ R := by omega
  have hRc : R ≠ cb := by omega
  obtain ⟨x0, hx0⟩ : ∃ x, x = w.alloc (Obj.cells #[.int .i64 0, .slice none 0 0] 42) := ⟨_, rfl⟩
  have D0 : DV w cb ad len cap x0 := by rw [hx0]; exact (DV.start hs).alloc _
  have R0 : AU x0 R 0 (.slice none 0 0) := by rw [hx0, hRe]; exact AU.new w _ _ _
  go_enter func40, ntmps40
  go_wp2_with fail
  go_at_call 38
  rw [← hx0, ← hRe]
  clear hx0 hRe
  refine (BU (D0.src hs) 6 (by decide) (by decide)).mono ?_
  rintro e y1 ⟨i1, rfl, i10, i11, s1, g1⟩
  have D1 := D0.step s1 g1
  have R1 := R0.grown g1 hRc
  clear D0 R0 s1 g1
  go_wp2_with fail
  go_at_call 38
  refine (BU (D1.src hs) 4 (by decide) (by decide)).mono ?_
  rintro e y2 ⟨i2, rfl, i20, i21, s2, g2⟩
  have D2 := D1.step s2 g2
  have R2 := R1.grown g2 hRc
  clear D1 R1 s2 g2
  go_wp2_with fail
  go_at_call 14
  refine (FG (1 + i1) (1 + i2) y2).mono ?_
  rintro e y3 ⟨a0, c0, rfl, o3, k3⟩
  have hln := Ig (id := 1 + i1) (n := 1 + i2) (by omega) (by omega) (by omega) (by omega)
  have R2l := R2.lt
  have D3 := D2.later8 k3
  have R3 := R2.below k3 R2.lt
  have z3 := k3.size
  obtain ⟨L0, hL0⟩ : ∃ L, AX (1 + i1) (1 + i2) = L := ⟨_, rfl⟩
  rw [hL0] at o3 hln ⊢
  have hl1 : 1 ≤ L0.length ∧ L0.length ≤ 4 := by omega
  obtain ⟨id0, hid⟩ : ∃ v, BJ (1 + i1) (1 + i2) = v := ⟨_, rfl⟩
  obtain ⟨nk, hnk⟩ : ∃ v, Aq (1 + i1) (1 + i2) = v := ⟨_, rfl⟩
  rw [hid, hnk]
  clear hid hnk hL0 hln D2 R2 k3
  obtain ⟨y4, hy4⟩ : ∃ y_, y_ = y3.alloc (Obj.cells #[.int .i64 id0, .slice a0 L0.length c0] 42) := ⟨_, rfl⟩
  have kn : Below y3.heap.size y3 y4 := by rw [hy4]; exact Ae _
  have Q4 : AU y4 y3.heap.size id0 (.slice a0 L0.length c0) := by rw [hy4]; exact AU.new y3 _ _ _
  have D4 := D3.later8 kn
  have R4 := R3.below kn R3.lt
  have o4 := o3.later kn
  have og : ∀ g_, (Value.slice a0 L0.length c0).ownBlock = some g_ → y2.heap.size ≤ g_ ∧ g_ < y3.heap.size := fun g_ e => o3.lt g_ e
  go_upto_region 2 with fail
  rw [← hy4]
  clear hy4 kn D3 R3 o3
  generalize hQ : y3.heap.size = Q at Q4 og z3 ⊢
  have hRQ : R < Q := by omega
  clear hQ
  obtain ⟨n, hn⟩ : ∃ n, L0.length = n := ⟨_, rfl⟩
  have o5 : AB AL 11 70 (R + 1) y4 (.slice a0 L0.length c0) L0 := o4.base (by omega)
  have hj : ∀ g_, (Value.slice a0 L0.length c0).ownBlock = some g_ → g_ ≠ Q := fun g_ e => by have := og g_ e; omega
  have hn4 : 1 ≤ n ∧ n ≤ 4 := by omega
  replace hn : Hid _ := hn
  clear og o4
  go_wp2
  go_loopw [5] (fun i wr => ∃ k : Nat, k ≤ n ∧ i = .int .i64 (k : Int) ∧ (∃ id L a c, (1 ≤ List.length L ∧ List.length L ≤ 4) ∧ AU wr Q id (.slice a (List.length L) c) ∧ AB AL 11 70 (R + 1) wr (.slice a (List.length L) c) L ∧ (∀ g_, (Value.slice a (List.length L) c).ownBlock = some g_ → g_ ≠ Q) ∧ List.length L = n) ∧ AU wr R 0 (.slice none 0 0) ∧ DV w cb ad len cap wr) (fun i _ => n - (intOf i).toNat)
  case atStart => exact ⟨0, Nat.zero_le _, rfl, ⟨id0, L0, a0, c0, hl1, Q4, o5, hj, hn.out⟩, R4, D4⟩
  case round =>
    clear Q4 R4 D4 o5 hj
    obtain ⟨k, hk, rfl, ⟨id, L, a, c, hL, Q4, o4, hj, hLn⟩, R4, D4⟩ := hrel
    replace hLn : Hid _ := hLn
    have hQl := Q4.lt
    obtain ⟨⟨q0, q1⟩, qf⟩ := Q4
    have Q4 : AU wr Q id (.slice a L.length c) := ⟨⟨q0, q1⟩, qf⟩
    have hQc : Q ≠ cb := by omega
    by_cases hlt : k < n
    · have hltL : k < L.length := by rw [hLn.out]; exact hlt
      go_wp2_with fail
      go_at_call 87
      refine (F7 (D4.src hs) 4 (by decide) (by decide)).mono ?_
      rintro e y5 ⟨bo, rfl, s5, g5⟩
      have D5 := D4.step s5 g5
      have R5 := R4.grown g5 hRc
      have Q5 := Q4.grown g5 hQc
      have o5 := o4.grown g5 (by omega)
      clear D4 R4 Q4 o4 s5 g5 q0 q1 qf
      cases bo
      · obtain ⟨⟨q0, q1⟩, qf⟩ := Q5
        have Q5 : AU y5 Q id (.slice a L.length c) := ⟨⟨q0, q1⟩, qf⟩
        have hc := EU id a c L ⟨3, (k : Int), 0, 0, 0, 0, 0, true⟩ y5 o5.view.2 (by omega) o5.capn
        go_wp2_with fail
        go_at_call 39
        refine hc.mono ?_
        rintro e y6 ⟨a6, c6, ao, co, rfl, o6, oo6, dd, k6⟩
        have hrl := FN id L ⟨3, (k : Int), 0, 0, 0, 0, 0, true⟩
        obtain ⟨L6, hL6⟩ : ∃ L6, CR id L ⟨3, (k : Int), 0, 0, 0, 0, 0, true⟩ = L6 := ⟨_, rfl⟩
        obtain ⟨O6, hO6⟩ : ∃ O6, Cb id L ⟨3, (k : Int), 0, 0, 0, 0, 0, true⟩ = O6 := ⟨_, rfl⟩
        rw [hL6] at o6 hrl ⊢
        rw [hO6] 
        have D6 := D5.later8 k6
        have R6 := R5.below k6 R5.lt
        have Q6 := Q5.below k6 Q5.lt
        have Q5l := Q5.lt
        have j6 : ∀ g_, (Value.slice a6 L6.length c6).ownBlock = some g_ → g_ ≠ Q := fun g_ e => by have := (o6.lt g_ e).1; omega
        have o6 : AB AL 11 70 (R + 1) y6 (.slice a6 L6.length c6) L6 := o6.base (by omega)
        clear hc oo6 dd hL6 hO6 k6 D5 R5 Q5 o5 q0 q1 qf
        have QP := Q6.put id (.slice a6 L6.length c6)
        have RP := (R6.other (q' := Q) (i := 0) (u := .int .i64 id) (by omega)).other (q' := Q) (i := 1) (u := .slice a6 L6.length c6) (by omega)
        have DP := (D6.set (N := Q) (i := 0) (by omega) hcb (.int .i64 id)).set (N := Q) (i := 1) (by omega) hcb (.slice a6 L6.length c6)
        have OP : AB AL 11 70 (R + 1) ((y6.setCell ⟨Q, 0, none⟩ (.int .i64 id)).setCell ⟨Q, 1, none⟩ (.slice a6 L6.length c6)) (.slice a6 L6.length c6) L6 := o6.keep fun g_ e => by
          rw [AF (by show g_ ≠ Q; exact j6 g_ e), AF (by show g_ ≠ Q; exact j6 g_ e)]
        obtain ⟨⟨q0, q1⟩, qf⟩ := Q6
        replace hrl : Hid _ := hrl
        have hl6 : 1 ≤ L6.length ∧ L6.length ≤ 4 := by have := hrl.out; omega
        go_wp2
        go_roundw
        case rel => exact ⟨k + 1, by omega, by go_num, ⟨id, L6, a6, c6, hl6, QP, OP, j6, by rw [hrl.out, hLn.out]⟩, RP, DP⟩
        case measure => simp [intOf]; omega
      · go_wp2
        go_roundw
        case rel => exact ⟨k + 1, by omega, by go_num, ⟨id, L, a, c, hL, Q5, o5, hj, hLn.out⟩, R5, D5⟩
        case measure => simp [intOf]; omega
    · have hge : ¬ k < L.length := by rw [hLn.out]; exact hlt
      have dL : decide ((k : Int) < (L.length : Int)) = false := decide_eq_false (by omega)
      have dL' : decide (k < L.length) = false := decide_eq_false hge
      replace hge : Hid _ := hge
      replace hlt : Hid _ := hlt
      go_upto_region 7 with fail
      clear q0 q1 qf
      go_wp2
      go_loopw [6] (fun i wr => ∃ k : Nat, k ≤ 10 ∧ i = .int .i64 (k : Int) ∧ (∃ id L a c, (1 ≤ List.length L ∧ List.length L ≤ 4) ∧ AU wr Q id (.slice a (List.length L) c) ∧ AB AL 11 70 (R + 1) wr (.slice a (List.length L) c) L ∧ (∀ g_, (Value.slice a (List.length L) c).ownBlock = some g_ → g_ ≠ Q)) ∧ AU wr R 0 (.slice none 0 0) ∧ DV w cb ad len cap wr) (fun i _ => 10 - (intOf i).toNat)
      case atStart => exact ⟨0, Nat.zero_le _, rfl, ⟨id, L, a, c, hL, Q4, o4, hj⟩, R4, D4⟩
      case round =>
        clear Q4 R4 D4 o4 hj hL hLn hQl hlt
        obtain ⟨k, hk, rfl, ⟨id, L, a, c, hL, Q4, o4, hj⟩, R4, D4⟩ := hrel
        have hQl := Q4.lt
        go_wp2_with fail
        go_at_call 38
        refine (BU (D4.src hs) 10 (by decide) (by decide)).mono ?_
        rintro e y5 ⟨t, rfl, t0, t1, s5, g5⟩
        have D5 := D4.step s5 g5
        have R5 := R4.grown g5 hRc
        have Q5 := Q4.grown g5 hQc
        have o5 := o4.grown g5 (by omega)
        clear D4 R4 Q4 o4 s5 g5
        by_cases hlt : (k : Int) < t
        · have dl : decide ((k : Int) < t) = true := decide_eq_true hlt
          have hk10 : k < 10 := by omega
          replace hlt : Hid _ := hlt
          go_upto_region 10 with fail
          refine wp_region_held (S := fun _ => True) (by kernel_rfl) ?_
          change wpAnyH _ _ _ _ _ _ _ _ (World.drew _)
          have D6 := D5.drew
          have R6 : AU y5.drew R 0 (.slice none 0 0) := R5.keep rfl
          have Q6 : AU y5.drew Q id (.slice a L.length c) := Q5.keep rfl
          have o6 : AB AL 11 70 (R + 1) y5.drew (.slice a L.length c) L := o5.keep (fun _ _ => rfl)
          have hQd : Q < y5.drew.heap.size := Q6.lt
          obtain ⟨u0, hu0⟩ : ∃ y_, y_ = y5.drew := ⟨_, rfl⟩
          rw [← hu0] at D6 R6 Q6 o6 hQd ⊢
          clear hu0 D5 R5 Q5 o5
          have hT : True := trivial
          refine Ak 1 42 (.pointer (some ⟨cb, 0, none⟩)) rfl rfl (by kernel_rfl) (by kernel_rfl) (by kernel_rfl) (fun _ _ _ h => h) (by kernel_rfl) (by (intro w hSw; go_simp)) (by assumption) ?_
          simp only [List.set_cons_zero, List.set_cons_succ]
          refine wpAnyH_all (rs := [0, 2]) (by kernel_rfl) (by simp) ?_
          intro i hi; rcases (by simpa using hi : i = 0 ∨ i = 2) with rfl | rfl
          · refine wpOp_step rfl (fun K hK => ?_)
            rw [if_pos (by kernel_rfl)]
            have cc_ := Q6
            obtain ⟨⟨t0_, t1_⟩, tf_⟩ := cc_
            go_simp
            clear t0_ t1_ tf_
            refine hK _ _ ⟨trivial, ?_⟩
            clear hK K hi
            refine wpAnyH_all (rs := [2]) (by kernel_rfl) (by simp) ?_
            intro i hi; obtain rfl : i = 2 := by simpa using hi
            refine wpOp_step rfl (fun K hK => ?_)
            rw [if_pos (by kernel_rfl)]
            go_simp
            go_at_call 88
            refine (GP u0 (D6.src hs) D6.cur.lt).mono ?_
            rintro e v1 ⟨x, rfl, s7, g7⟩
            have D6 := D6.step s7 g7
            have R6 := R6.grown g7 hRc
            have Q6 := Q6.grown g7 hQc
            have o6 := o6.grown g7 (by omega)
            clear s7 g7
            refine hK _ _ ⟨trivial, ?_⟩
            clear hK K hi
            refine wpAnyH_all (rs := [3]) (by kernel_rfl) (by simp) ?_
            intro i hi; obtain rfl : i = 3 := by simpa using hi
            refine wpOp_step rfl (fun K hK => ?_)
            rw [if_pos (by kernel_rfl)]
            go_simp
            go_at_call 39
            refine (EU id a c L x v1 o6.view.2 (by omega) o6.capn).mono ?_
            rintro e v2 ⟨a6, c6, ao, co, rfl, o7, oo6, dd, k6⟩
            have hrl := FN id L x
            obtain ⟨L6, hL6⟩ : ∃ L6, CR id L x = L6 := ⟨_, rfl⟩
            obtain ⟨O6, hO6⟩ : ∃ O6, Cb id L x = O6 := ⟨_, rfl⟩
            rw [hL6] at o7 hrl ⊢
            rw [hO6]
            replace hrl : Hid _ := hrl
            have Q6l := Q6.lt
            have j6 : ∀ g_, (Value.slice a6 L6.length c6).ownBlock = some g_ → g_ ≠ Q := fun g_ e => by have := (o7.lt g_ e).1; omega
            have D6 := D6.later8 k6
            have R6 := R6.below k6 R6.lt
            have Q6 := Q6.below k6 Q6.lt
            have o7 : AB AL 11 70 (R + 1) v2 (.slice a6 L6.length c6) L6 := o7.base (by omega)
            clear oo6 dd hL6 hO6 k6 o6
            refine hK _ _ ⟨trivial, ?_⟩
            clear hK K hi
            refine Ak 4 40 (.tuple #[.agg #[.int .i64 id, .slice a6 L6.length c6], .slice ao O6.length co]) rfl rfl (by kernel_rfl) (by kernel_rfl) (by kernel_rfl) (fun _ _ _ h => h) (by kernel_rfl) (by (intro w hSw; go_simp)) (by assumption) ?_
            simp only [List.set_cons_zero, List.set_cons_succ]
            refine Ak 5 45 (.agg #[.int .i64 id, .slice a6 L6.length c6]) rfl rfl (by kernel_rfl) (by kernel_rfl) (by kernel_rfl) (fun _ _ _ h => h) (by kernel_rfl) (by (intro w hSw; go_simp)) (by assumption) ?_
            simp only [List.set_cons_zero, List.set_cons_succ]
            refine Ak 6 46 (.slice ao O6.length co) rfl rfl (by kernel_rfl) (by kernel_rfl) (by kernel_rfl) (fun _ _ _ h => h) (by kernel_rfl) (by (intro w hSw; go_simp)) (by assumption) ?_
            simp only [List.set_cons_zero, List.set_cons_succ]
            refine wpAnyH_all (rs := [7]) (by kernel_rfl) (by simp) ?_
            intro i hi; obtain rfl : i = 7 := by simpa using hi
            refine wpOp_step rfl (fun K hK => ?_)
            rw [if_pos (by kernel_rfl)]
            have QP := Q6.put id (.slice a6 L6.length c6)
            have RP := (R6.other (q' := Q) (i := 0) (u := .int .i64 id) (by omega)).other (q' := Q) (i := 1) (u := .slice a6 L6.length c6) (by omega)
            have DP := (D6.set (N := Q) (i := 0) (by omega) hcb (.int .i64 id)).set (N := Q) (i := 1) (by omega) hcb (.slice a6 L6.length c6)
            have OP : AB AL 11 70 (R + 1) ((v2.setCell ⟨Q, 0, none⟩ (.int .i64 id)).setCell ⟨Q, 1, none⟩ (.slice a6 L6.length c6)) (.slice a6 L6.length c6) L6 := o7.keep fun g_ e => by
              rw [AF (by show g_ ≠ Q; exact j6 g_ e), AF (by show g_ ≠ Q; exact j6 g_ e)]
            obtain ⟨⟨q0, q1⟩, qf⟩ := Q6
            go_simp
            refine hK _ _ ⟨trivial, ?_⟩
            clear hK K hi
            refine wpAnyH_done (by kernel_rfl) ?_ _
            have hl6 : 1 ≤ L6.length ∧ L6.length ≤ 4 := by have := hrl.out; omega
            go_wp2
            go_roundw
            case rel => exact ⟨k + 1, by omega, by go_num, ⟨id, L6, a6, c6, hl6, QP, OP, j6⟩, RP, DP⟩
            case measure => simp [intOf]; omega
          · refine wpOp_step rfl (fun K hK => ?_)
            rw [if_pos (by kernel_rfl)]
            go_simp
            go_at_call 88
            refine (GP u0 (D6.src hs) D6.cur.lt).mono ?_
            rintro e v1 ⟨x, rfl, s7, g7⟩
            have D6 := D6.step s7 g7
            have R6 := R6.grown g7 hRc
            have Q6 := Q6.grown g7 hQc
            have o6 := o6.grown g7 (by omega)
            clear s7 g7
            refine hK _ _ ⟨trivial, ?_⟩
            clear hK K hi
            refine wpAnyH_all (rs := [0]) (by kernel_rfl) (by simp) ?_
            intro i hi; obtain rfl : i = 0 := by simpa using hi
            refine wpOp_step rfl (fun K hK => ?_)
            rw [if_pos (by kernel_rfl)]
            have cc_ := Q6
            obtain ⟨⟨t0_, t1_⟩, tf_⟩ := cc_
            go_simp
            clear t0_ t1_ tf_
            refine hK _ _ ⟨trivial, ?_⟩
            clear hK K hi
            refine wpAnyH_all (rs := [3]) (by kernel_rfl) (by simp) ?_
            intro i hi; obtain rfl : i = 3 := by simpa using hi
            refine wpOp_step rfl (fun K hK => ?_)
            rw [if_pos (by kernel_rfl)]
            go_simp
            go_at_call 39
            refine (EU id a c L x v1 o6.view.2 (by omega) o6.capn).mono ?_
            rintro e v2 ⟨a6, c6, ao, co, rfl, o7, oo6, dd, k6⟩
            have hrl := FN id L x
            obtain ⟨L6, hL6⟩ : ∃ L6, CR id L x = L6 := ⟨_, rfl⟩
            obtain ⟨O6, hO6⟩ : ∃ O6, Cb id L x = O6 := ⟨_, rfl⟩
            rw [hL6] at o7 hrl ⊢
            rw [hO6]
            replace hrl : Hid _ := hrl
            have Q6l := Q6.lt
            have j6 : ∀ g_, (Value.slice a6 L6.length c6).ownBlock = some g_ → g_ ≠ Q := fun g_ e => by have := (o7.lt g_ e).1; omega
            have D6 := D6.later8 k6
            have R6 := R6.below k6 R6.lt
            have Q6 := Q6.below k6 Q6.lt
            have o7 : AB AL 11 70 (R + 1) v2 (.slice a6 L6.length c6) L6 := o7.base (by omega)
            clear oo6 dd hL6 hO6 k6 o6
            refine hK _ _ ⟨trivial, ?_⟩
            clear hK K hi
            refine Ak 4 40 (.tuple #[.agg #[.int .i64 id, .slice a6 L6.length c6], .slice ao O6.length co]) rfl rfl (by kernel_rfl) (by kernel_rfl) (by kernel_rfl) (fun _ _ _ h => h) (by kernel_rfl) (by (intro w hSw; go_simp)) (by assumption) ?_
            simp only [List.set_cons_zero, List.set_cons_succ]
            refine Ak 5 45 (.agg #[.int .i64 id, .slice a6 L6.length c6]) rfl rfl (by kernel_rfl) (by kernel_rfl) (by kernel_rfl) (fun _ _ _ h => h) (by kernel_rfl) (by (intro w hSw; go_simp)) (by assumption) ?_
            simp only [List.set_cons_zero, List.set_cons_succ]
            refine Ak 6 46 (.slice ao O6.length co) rfl rfl (by kernel_rfl) (by kernel_rfl) (by kernel_rfl) (fun _ _ _ h => h) (by kernel_rfl) (by (intro w hSw; go_simp)) (by assumption) ?_
            simp only [List.set_cons_zero, List.set_cons_succ]
            refine wpAnyH_all (rs := [7]) (by kernel_rfl) (by simp) ?_
            intro i hi; obtain rfl : i = 7 := by simpa using hi
            refine wpOp_step rfl (fun K hK => ?_)
            rw [if_pos (by kernel_rfl)]
            have QP := Q6.put id (.slice a6 L6.length c6)
            have RP := (R6.other (q' := Q) (i := 0) (u := .int .i64 id) (by omega)).other (q' := Q) (i := 1) (u := .slice a6 L6.length c6) (by omega)
            have DP := (D6.set (N := Q) (i := 0) (by omega) hcb (.int .i64 id)).set (N := Q) (i := 1) (by omega) hcb (.slice a6 L6.length c6)
            have OP : AB AL 11 70 (R + 1) ((v2.setCell ⟨Q, 0, none⟩ (.int .i64 id)).setCell ⟨Q, 1, none⟩ (.slice a6 L6.length c6)) (.slice a6 L6.length c6) L6 := o7.keep fun g_ e => by
              rw [AF (by show g_ ≠ Q; exact j6 g_ e), AF (by show g_ ≠ Q; exact j6 g_ e)]
            obtain ⟨⟨q0, q1⟩, qf⟩ := Q6
            go_simp
            refine hK _ _ ⟨trivial, ?_⟩
            clear hK K hi
            refine wpAnyH_done (by kernel_rfl) ?_ _
            have hl6 : 1 ≤ L6.length ∧ L6.length ≤ 4 := by have := hrl.out; omega
            go_wp2
            go_roundw
            case rel => exact ⟨k + 1, by omega, by go_num, ⟨id, L6, a6, c6, hl6, QP, OP, j6⟩, RP, DP⟩
            case measure => simp [intOf]; omega
        · have dl : decide ((k : Int) < t) = false := decide_eq_false hlt
          replace hlt : Hid _ := hlt
          go_upto_region 11 with fail
          have RP := R5.put id (.slice a L.length c)
          have DZ := (D5.set (N := R) (i := 0) (by omega) hcb (.int .i64 id)).set (N := R) (i := 1) (by omega) hcb (.slice a L.length c)
          have OZ : AB AL 11 70 w.heap.size ((y5.setCell ⟨R, 0, none⟩ (.int .i64 id)).setCell ⟨R, 1, none⟩ (.slice a L.length c)) (.slice a L.length c) L := ((o5.other (q := R) (i := 0) (u := .int .i64 id) (by omega)).other (q := R) (i := 1) (u := .slice a L.length c) (by omega)).base (by omega)
          obtain ⟨⟨r0, r1⟩, rf⟩ := R5
          obtain ⟨⟨q0, q1⟩, qf⟩ := Q5
          obtain ⟨⟨p0, p1⟩, _⟩ := RP
          go_wp2
          refine bodyPost_ret (v := .agg #[.int .i64 id, .slice a L.length c]) (by simp [results, results40, go_sem, *]) rfl ⟨id, a, c, L, rfl, by omega, OZ, DZ.src hs, DZ.gr⟩
end Go.Proofs.YtjmnaeeknomiaaaGreat
