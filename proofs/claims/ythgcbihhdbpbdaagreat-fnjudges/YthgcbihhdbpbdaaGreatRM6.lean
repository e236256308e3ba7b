import Derived.Test.YthgcbihhdbpbdaaGreatRKWBr4
import Derived.Test.YthgcbihhdbpbdaaGreatRM5
import Derived.Test.YthgcbihhdbpbdaaGreatRKWIn2
namespace Go.Proofs.YthgcbihhdbpbdaaGreat
open Go.ChangeShapes Go.WideShapes Go.ChangeAt Go.RowKit
open Go.ChangeMaps (open_string shut_string)
set_option linter.unusedVariables false
set_option maxRecDepth 100000
set_option maxHeartbeats 32000000
set_option linter.unusedSimpArgs false
open Go.Proofs.Tryz
attribute [local go_sem] ji ja
def Ay (id n : Int) : Bool := decide (1 ≤ id ∧ id ≤ 9) && decide (1 ≤ n ∧ n ≤ 4)
theorem H9 {id : Int} {k : Nat} : Bp id (List.replicate k Pt.nil) = Ay id k := by
 unfold Bp Ay;have e : (List.replicate k Pt.nil).all Ai = true := by
  rw [List.all_eq_true]; intro x hx; rw [List.eq_of_mem_replicate hx]; exact H3
 rw [e, List.length_replicate, Bool.and_true];congr 1
 exact decide_eq_decide.2 (by omega)
def Bf (id n : Int) : Int := if Ay id n then id else 0
def Ap (id n : Int) : List Pt := if Ay id n then List.replicate n.toNat Pt.nil else []
theorem JH {n : Nat} (h : n ≤ 4) : (madeCells (Value.cells (.agg #[.bool false, .bool false, ji 0, ji 0, ji 0, ji 0, ji 0, ji 0, ji 0, ji 0, .bool false])) (n * 11)).toList = Ac AJ (List.replicate n Pt.nil) := by
 rcases (by omega : n = 0 ∨ n = 1 ∨ n = 2 ∨ n = 3 ∨ n = 4) with rfl | rfl | rfl | rfl | rfl
 rotate_left;rotate_left;rotate_left;rotate_left;rotate_left;all_goals
  simp only [madeCells, Array.toList_map, Array.toList_range]; rfl
theorem AH.one (w : World) (t : TypeId) (x : Pt) : AH AJ (w.alloc (Obj.cells #[.bool x.up, .bool x.has, ji x.r, ji x.c, ji x.b, ji x.p, ji x.h, ji x.l, ji x.ro, ji x.wa, .bool x.op] t)) (some (ja w.heap.size 0)) [x] := by
 intro _;refine ⟨w.heap.size, 0, rfl, fun j v hv => ?_⟩;have hj : j < 11 := by
  have := (List.getElem?_eq_some_iff.1 hv).1;simpa [Ac, AJ] using this
 rcases (by omega : j = 0 ∨ j = 1 ∨ j = 2 ∨ j = 3 ∨ j = 4 ∨ j = 5 ∨ j = 6 ∨ j = 7 ∨ j = 8 ∨ j = 9 ∨ j = 10) with rfl | rfl | rfl | rfl | rfl | rfl | rfl | rfl | rfl | rfl | rfl
 rotate_left;rotate_left;rotate_left;rotate_left;rotate_left;rotate_left;rotate_left;rotate_left;rotate_left;rotate_left;rotate_left;all_goals
  cases hv; simp [go_sem]
theorem GC (a b : Int) (w : World) : Calls prog 43 #[ji a, ji b] w fun e w' => e = .returned (ji (if a < b then a else b)) ∧ w' = w := by
 by_cases h : a < b
 ·
  rw [if_pos h];have d : decide (a < b) = true := decide_eq_true h;clear h;go_enter func43, ntmps43
  go_wp2
  go_ret
  exact ⟨rfl, rfl⟩
 rw [if_neg h];have d : decide (a < b) = false := decide_eq_false h;clear h;go_enter func43, ntmps43
 go_wp2
 go_ret
 exact ⟨rfl, rfl⟩
theorem Gw (id n : Int) (w : World) :
  Calls prog 13 #[ji id, ji n] w fun e w' => ∃ ad' cap', e = .returned (.tuple #[.agg #[ji (Bf id n), .slice ad' (Ap id n).length cap'], .bool (Ay id n)]) ∧ AD AJ 11 70 w.heap.size w' (.slice ad' (Ap id n).length cap') (Ap id n) ∧ Bw w w' := by
 obtain ⟨i0, hi, hz0, hz1, hz2⟩ := info_parts FW;obtain ⟨y, hy, B0⟩ := AI w (Obj.cells #[ji 0, .slice none 0 0] 42);have R0 : AP y w.heap.size 0 (.slice none 0 0) := by rw [hy]; exact AP.new w _ _ _
 have S0 := R0.lt;obtain ⟨IV, hI⟩ := AB (Bf id n);obtain ⟨LV, hM⟩ := AB (Ap id n);obtain ⟨NV, hN⟩ := AB (Ay id n);rw [← hI, ← hM, ← hN];by_cases hn0 : 0 ≤ n ∧ n ≤ 4
 rotate_left
 ·
  have e : Ay id n = false := by unfold Ay; rw [decide_eq_false (show ¬ (1 ≤ n ∧ n ≤ 4) by omega), Bool.and_false]
  replace hI : Hid (IV = 0) := by unfold Hid; rw [hI]; unfold Bf; rw [e]; rfl
  replace hM : Hid (LV = []) := by unfold Hid; rw [hM]; unfold Ap; rw [e]; rfl
  replace hN : Hid (NV = false) := by unfold Hid; rw [hN, e]
  by_cases h1 : n < 0
  focus
   have d1 : decide (n < 0) = true := decide_eq_true h1
  rotate_left;focus
   have d1 : decide (n < 0) = false := decide_eq_false h1;have d2 : decide (4 < n) = true := decide_eq_true (by omega)
  rotate_left;all_goals
   clear h1 hn0 e;go_enter func13, ntmps13
   go_upto_region 2 with fail
   rw [← hy];clear hy;have RP := R0.put 0 (.slice none 0 0);obtain ⟨⟨r0, r1⟩, rf⟩ := R0;have BZ := (B0.setCell (p := (ja w.heap.size 0)) (Nat.le_refl w.heap.size) (ji 0)).setCell (p := (ja w.heap.size 1)) (Nat.le_refl w.heap.size) (.slice none 0 0);obtain ⟨⟨p0, p1⟩, _⟩ := RP;go_wp2
   refine bodyPost_ret (v := .tuple #[.agg #[ji 0, .slice none 0 0], .bool false]) (by simp [results, results13, go_sem, *]) rfl ⟨none, 0, by rw [hI.out, hM.out, hN.out]; rfl, by rw [hM.out]; exact AD.nil, BZ⟩
 obtain ⟨k, rfl⟩ : ∃ k : Nat, n = (k : Int) := ⟨n.toNat, by omega⟩;have hk : k ≤ 4 := by omega
 have d1 : decide ((k : Int) < 0) = false := decide_eq_false (by omega);have d2 : decide (4 < (k : Int)) = false := decide_eq_false (by omega);clear hn0;go_enter func13, ntmps13
 go_upto_region 3 with fail
 rw [← hy];clear hy;go_wp2_with (first | (refine wpList_make_full _ rfl _ _ 40 rfl y.heap.size 70 i0 (.agg #[.bool false, .bool false, ji 0, ji 0, ji 0, ji 0, ji 0, ji 0, ji 0, ji 0, .bool false]) 11 underlying40 hi hz0 hz1 .i64 .i64 _ _ k rfl rfl rfl rfl ?c1 ?c2 ?c3 ?_))
 case c1 => rw [hz2]; omega
 case c2 => unfold maxLen; omega
 case c3 => exact Nat.le_refl _
 intro w1 hown hgrow;have O1 : AD AJ 11 70 y.heap.size w1 (.slice (some (ja y.heap.size 0)) k k) (List.replicate k Pt.nil) := by
  unfold AD;rw [List.length_replicate, ← JH hk];exact hown
 have k1 : Bw y w1 := (Below.refl _ _).grown hgrow (Nat.le_refl _) (by simp);clear hown hgrow;have R1 := R0.below k1 S0;have B1 := AA B0 k1;have S1 := R1.lt;have gl := (O1.lt y.heap.size rfl).2;obtain ⟨y2, hy2, kn⟩ := AI w1 (Obj.cells #[ji id, .slice (some (ja y.heap.size 0)) k k] 42);have A2 : Ab y2 w1.heap.size id (.slice (some (ja y.heap.size 0)) k k) := by rw [hy2]; exact Ab.new w1 _ _ _
 have R2 := R1.below kn S1;have O2 := O1.later kn;have B2 := AA B1 kn;have S2 := A2.lt;go_upto_region 4 with fail
 rw [← hy2];clear hy2 kn R0 R1 O1 k1 B0 B1;generalize y.heap.size = g at S0 O2 gl A2 ⊢
 generalize w1.heap.size = Q at S1 gl A2 S2 ⊢
 obtain ⟨a0, a1⟩ := A2;have A2 : Ab y2 Q id (.slice (some (ja g 0)) k k) := ⟨a0, a1⟩;go_wp2_with fail
 go_at_call 42
 clear a0 a1;obtain ⟨Rk, hRk⟩ := AB (List.replicate k Pt.nil);rw [← hRk] at O2;have hRl : Rk.length = k := by rw [hRk, List.length_replicate]
 have hc := Fb id (some (ja g 0)) k Rk y2 (by have := O2.view.2; exact this) (by omega);rw [hRl] at hc;refine hc.mono ?_;rintro e w3 ⟨rfl, k3⟩;have B3 := AA B2 k3;have A3 := A2.below k3 S2;have R3 := R2.below k3 R2.lt;have O3 := O2.later k3;rw [hRk, H9];clear hc k3 A2 R2 O2 B2;cases he : Ay id (k : Int) with
 | false =>
  replace hI : Hid (IV = 0) := by unfold Hid; rw [hI]; unfold Bf; rw [he]; rfl
  replace hM : Hid (LV = []) := by unfold Hid; rw [hM]; unfold Ap; rw [he]; rfl
  replace hN : Hid (NV = false) := by unfold Hid; rw [hN, he]
  clear he hRk hRl;have RP := R3.put 0 (.slice none 0 0);obtain ⟨⟨r0, r1⟩, rf⟩ := R3;have BZ := (B3.setCell (p := (ja w.heap.size 0)) (Nat.le_refl w.heap.size) (ji 0)).setCell (p := (ja w.heap.size 1)) (Nat.le_refl w.heap.size) (.slice none 0 0);obtain ⟨⟨p0, p1⟩, _⟩ := RP;go_wp2
  refine bodyPost_ret (v := .tuple #[.agg #[ji 0, .slice none 0 0], .bool false]) (by simp [results, results13, go_sem, *]) rfl ⟨none, 0, by rw [hI.out, hM.out, hN.out]; rfl, by rw [hM.out]; exact AD.nil, BZ⟩
 | true =>
  replace hI : Hid (IV = id) := by unfold Hid; rw [hI]; unfold Bf; rw [he]; rfl
  replace hM : Hid (LV = Rk) := by unfold Hid; rw [hM, hRk]; unfold Ap; rw [he]; rfl
  replace hN : Hid (NV = true) := by unfold Hid; rw [hN, he]
  replace hRl : Hid _ := hRl;clear he hRk;have RP := R3.put id (.slice (some (ja g 0)) k k);obtain ⟨⟨r0, r1⟩, rf⟩ := R3;obtain ⟨a0, a1⟩ := A3;have BZ := (B3.setCell (p := (ja w.heap.size 0)) (Nat.le_refl w.heap.size) (ji id)).setCell (p := (ja w.heap.size 1)) (Nat.le_refl w.heap.size) (.slice (some (ja g 0)) k k);have OZ : AD AJ 11 70 w.heap.size ((w3.setCell (ja w.heap.size 0) (ji id)).setCell (ja w.heap.size 1) (.slice (some (ja g 0)) k k)) (.slice (some (ja g 0)) k k) Rk := (O3.base (by omega)).keep fun g' e => by
   obtain rfl : g = g' := by simpa [Value.ownBlock] using e
   rw [AE (by show g ≠ w.heap.size; omega), AE (by show g ≠ w.heap.size; omega)]
  obtain ⟨⟨p0, p1⟩, _⟩ := RP;go_wp2
  refine bodyPost_ret (v := .tuple #[.agg #[ji id, .slice (some (ja g 0)) k k], .bool true]) (by simp [results, results13, go_sem, *]) rfl ⟨some (ja g 0), k, by rw [hI.out, hM.out, hN.out, hRl.out], by rw [hM.out, hRl.out]; exact OZ, BZ⟩
end Go.Proofs.YthgcbihhdbpbdaaGreat
namespace Go.Proofs.YthgcbihhdbpbdaaGreat
open Go.ChangeShapes Go.WideShapes Go.ChangeAt Go.RowKit
open Go.ChangeMaps (open_string shut_string)
set_option linter.unusedVariables false
set_option maxRecDepth 100000
set_option maxHeartbeats 32000000
set_option linter.unusedSimpArgs false
open Go.Proofs.Tryz
theorem E5 (q len : Nat) (ad : Option Addr) (cap : Nat) (w : World) (h : w.cell? (ja q 0) = some (.slice ad len cap)) :
  Calls prog 140 #[.pointer (some (ja q 0))] w fun e w' => e = .returned (ji (len : Int)) ∧ w' = w := by
 go_enter func140, ntmps140
 go_wp2
 go_ret
 exact ⟨rfl, rfl⟩
theorem Ic (q len : Nat) (ad : Option Addr) (cap : Nat) (n : Int) (w : World) (h : w.cell? (ja q 0) = some (.slice ad len cap)) :
  Calls prog 142 #[.pointer (some (ja q 0)), ji n] w fun e w' => e = .returned (.bool (decide (0 ≤ n ∧ n ≤ (len : Int)))) ∧ w' = w := by
 obtain ⟨R, hR⟩ := AB (decide (0 ≤ n ∧ n ≤ (len : Int)));rw [← hR];replace hR : Hid _ := hR;by_cases h1 : 0 ≤ n
 ·
  have d1 : decide (0 ≤ n) = true := decide_eq_true h1;have hN : Hid (R = decide (n ≤ (len : Int))) := by unfold Hid; rw [hR.out]; by_cases h2 : n ≤ (len : Int) <;> simp [h1, h2]
  clear hR;go_enter func142, ntmps142
  go_wp2_with fail
  go_at_call 140
  refine (E5 q len ad cap w h).mono ?_;rintro e w1 ⟨rfl, rfl⟩;go_wp2
  go_ret
  exact ⟨by rw [hN.out]; rfl, rfl⟩
 have d1 : decide (0 ≤ n) = false := decide_eq_false h1;have hN : Hid (R = false) := by unfold Hid; rw [hR.out]; simp [h1]
 clear hR;go_enter func142, ntmps142
 go_wp2
 go_ret
 exact ⟨by rw [hN.out]; rfl, rfl⟩
theorem GX {X : Type} (f : X → Bool) (L : List X) (d : X) {k : Nat} (hk : k < L.length) : (L.take (k + 1)).all f = ((L.take k).all f && f (L.getD k d)) := by
 rw [List.take_add_one, List.all_append];have e : L[k]?.toList = [L.getD k d] := by simp [List.getD, hk]
 rw [e]; simp
theorem Gt {X : Type} (f : X → Bool) (L : List X) (d : X) {k : Nat} (hk : k < L.length) (h : f (L.getD k d) = false) : L.all f = false := by
 rw [List.all_eq_false];refine ⟨L.getD k d, ?_, by rw [h]; exact Bool.false_ne_true⟩;simp [List.getD, hk]
theorem LR (q : Nat) (ad : Option Addr) (cap : Nat) (L : List Ik) (w : World) (h : w.cell? (ja q 0) = some (.slice ad L.length cap)) (hv : AH AS w ad L) (hl : L.length ≤ 1048577) :
  Calls prog 141 #[.pointer (some (ja q 0)), .func (Fn.func 97) #[] #[]] w fun e w' => e = .returned (.bool (L.all Av)) ∧ Bw w w' := by
 have hB := hv.lt Aa (by omega);obtain ⟨R, hR⟩ := AB (L.all Av);rw [← hR];replace hR : Hid _ := hR;go_enter func141, ntmps141
 go_wp2
 go_loopw [12] (fun i wr => ∃ k : Nat, k ≤ L.length ∧ i = .int .i64 k ∧ (L.take k).all Av = true ∧ Below w.heap.size w wr) (fun i _ => L.length - (intOf i).toNat)
 case atStart => exact ⟨0, Nat.zero_le _, rfl, rfl, Below.refl _ _⟩
 case round =>
  obtain ⟨k, hk, rfl, T, B⟩ := hrel;replace T : Hid _ := T;by_cases hlt : k < L.length
  ·
   obtain ⟨b, off, rfl, _⟩ := hv (by omega);obtain ⟨x, hh⟩ : ∃ x, L.getD k Ik.nil = x := ⟨_, rfl⟩;have hck : Bl wr b (off + k * 8) x := by
    rw [← hh];exact DT ((hv.below B hB).at_ Aa Ik.nil hlt)
   have hT := GX Av L Ik.nil hlt;rw [T.out, hh, Bool.true_and] at hT;have hNo : Av x = false → L.all Av = false := fun e => Gt Av L Ik.nil hlt (by rw [hh]; exact e)
   replace hT : Hid _ := hT;replace hh : Hid _ := hh;replace hck := hck.all;obtain ⟨u, hu, ku⟩ := AI wr (Obj.cells (ic x) 64);have U : A8 u wr.heap.size x := by rw [hu]; exact A8.new wr _ x
   have B2 := AA B ku;go_upto_region 4 with fail
   rw [← hu];clear hck hu ku;replace U := U.all;go_wp2_with fail
   go_at_call 97
   clear U;refine (F6 x u).mono ?_;rintro e u2 ⟨rfl, k2⟩;have B3 := AA B2 k2;clear k2 B2 B;cases hx : Av x with
   | false =>
    have hN : Hid (R = false) := by unfold Hid; rw [hR.out]; exact hNo hx
    clear hNo hx;go_wp2
    go_ret
    exact ⟨by rw [hN.out]; rfl, B3⟩
   | true =>
    have hT2 : Hid ((L.take (k + 1)).all Av = true) := by unfold Hid; rw [hT.out, hx]
    clear hNo hx;go_wp2
    go_roundw
    case rel => exact ⟨k + 1, by omega, by go_num, hT2.out, B3⟩
    case measure => simp [intOf]; omega
  obtain rfl : k = L.length := by omega
  have hN : Hid (R = true) := by unfold Hid; rw [hR.out]; have := T.out; rwa [List.take_length] at this
  go_wp2
  go_ret
  exact ⟨by rw [hN.out]; rfl, B⟩
theorem Ia (ad : Option Addr) (cap : Nat) (L : List Ik) (w : World) (hv : AH AS w ad L) (hl : L.length ≤ 1048577) :
  Calls prog 58 #[.slice ad L.length cap] w fun e w' => e = .returned (.bool (Co L)) ∧ Bw w w' := by
 have hB := hv.lt Aa (by omega);obtain ⟨R, hR⟩ := AB (Co L);rw [← hR];replace hR : Hid _ := hR;go_enter func58, ntmps58
 go_wp2
 go_loopw [3] (fun i wr => ∃ k : Nat, k ≤ L.length ∧ i = .int .i64 k ∧ (L.take k).all Av = true ∧ Below w.heap.size w wr) (fun i _ => L.length - (intOf i).toNat)
 case atStart => exact ⟨0, Nat.zero_le _, rfl, rfl, Below.refl _ _⟩
 case round =>
  obtain ⟨k, hk, rfl, T, B⟩ := hrel;replace T : Hid _ := T;by_cases hlt : k < L.length
  ·
   obtain ⟨b, off, rfl, _⟩ := hv (by omega);obtain ⟨x, hh⟩ : ∃ x, L.getD k Ik.nil = x := ⟨_, rfl⟩;have hck : Bl wr b (off + k * 8) x := by
    rw [← hh];exact DT ((hv.below B hB).at_ Aa Ik.nil hlt)
   have hT := GX Av L Ik.nil hlt;rw [T.out, hh, Bool.true_and] at hT;have hNo : Av x = false → L.all Av = false := fun e => Gt Av L Ik.nil hlt (by rw [hh]; exact e)
   replace hT : Hid _ := hT;replace hh : Hid _ := hh;replace hck := hck.all;go_wp2_with fail
   go_at_call 82
   clear hck;refine (F5 x wr).mono ?_;rintro e u2 ⟨rfl, k2⟩;have B3 := AA B k2;clear k2 B;cases hx : Av x with
   | false =>
    have hN : Hid (R = false) := by unfold Hid; rw [hR.out]; unfold Co; rw [hNo hx]; rfl
    clear hNo hx;go_wp2
    go_ret
    exact ⟨by rw [hN.out]; rfl, B3⟩
   | true =>
    have hT2 : Hid ((L.take (k + 1)).all Av = true) := by unfold Hid; rw [hT.out, hx]
    clear hNo hx;go_wp2
    go_roundw
    case rel => exact ⟨k + 1, by omega, by go_num, hT2.out, B3⟩
    case measure => simp [intOf]; omega
  obtain rfl : k = L.length := by omega
  have hN : Hid (R = decide ((L.length : Int) ≤ 60)) := by
   unfold Hid; rw [hR.out]; unfold Co
   have := T.out;rw [List.take_length] at this;rw [this, Bool.true_and];by_cases h : L.length ≤ 60
   ·
    rw [decide_eq_true h, decide_eq_true (by omega)]
   rw [decide_eq_false h, decide_eq_false (by omega)]
  go_wp2
  go_ret
  exact ⟨by rw [hN.out]; rfl, B⟩
theorem E9 (m : Mi) (ad : Option Addr) (cap : Nat) (w : World) (hv : AH AS w ad m.lg) (hl : m.lg.length ≤ 1048577) :
  Calls prog 56 #[.agg #[.bool m.up, ji m.li, ji m.ep, .slice ad m.lg.length cap, ji m.sd, ji m.ac, ji m.al]] w fun e w' => e = .returned (.bool (Aq m)) ∧ Bw w w' := by
 have hB := hv.lt Aa (by omega);obtain ⟨R, hR⟩ := AB (Aq m);rw [← hR];replace hR : Hid _ := hR;obtain ⟨y, hy, B0⟩ := AI w (Obj.cells (mc m ad cap) 52);have A : Ag y w.heap.size m (.slice ad m.lg.length cap) := by rw [hy]; exact Ag.new w _ _ _
 have S0 := A.lt;have hv1 := hv.below B0 hB;clear hv;go_enter func56, ntmps56
 go_upto_region 1 with fail
 rw [← hy];clear hy;have x0 := A.all;go_wp2_with fail
 go_at_call 65
 clear x0;refine (BM m.li 0 100000 y).mono ?_;rintro e v0 ⟨rfl, hw_⟩;have A := (by rw [hw_]; exact A : Ag v0 w.heap.size m (.slice ad m.lg.length cap));have hv1 := (by rw [hw_]; exact hv1 : AH AS v0 ad m.lg);have Bx := (by rw [hw_]; exact B0 : Bw w v0);clear hw_ B0;have B1 := Bx;clear Bx;rw [show decide (0 ≤ m.li ∧ m.li ≤ 100000) = Be m.li from rfl];cases h_li : Be m.li
 ·
  have hN : Hid (R = false) := by unfold Hid; rw [hR.out]; unfold Aq; rw [h_li]; rfl
  clear h_li;go_wp2
  go_ret
  exact ⟨by rw [hN.out]; rfl, B1⟩
 replace h_li : Hid _ := h_li;have x0 := A.all;go_wp2_with fail
 go_at_call 65
 clear x0;refine (BM m.ep 0 100000 v0).mono ?_;rintro e v1 ⟨rfl, hw_⟩;have A := (by rw [hw_]; exact A : Ag v1 w.heap.size m (.slice ad m.lg.length cap));have hv1 := (by rw [hw_]; exact hv1 : AH AS v1 ad m.lg);have Bx := (by rw [hw_]; exact B1 : Bw w v1);clear hw_ B1;have B2 := Bx;clear Bx;rw [show decide (0 ≤ m.ep ∧ m.ep ≤ 100000) = Be m.ep from rfl];cases h_ep : Be m.ep
 ·
  have hN : Hid (R = false) := by unfold Hid; rw [hR.out]; unfold Aq; rw [h_li.out, h_ep]; rfl
  clear h_ep;go_wp2
  go_ret
  exact ⟨by rw [hN.out]; rfl, B2⟩
 replace h_ep : Hid _ := h_ep;have x0 := A.all;go_wp2_with fail
 go_at_call 65
 clear x0;refine (BM m.al 0 100000 v1).mono ?_;rintro e v2 ⟨rfl, hw_⟩;have A := (by rw [hw_]; exact A : Ag v2 w.heap.size m (.slice ad m.lg.length cap));have hv1 := (by rw [hw_]; exact hv1 : AH AS v2 ad m.lg);have Bx := (by rw [hw_]; exact B2 : Bw w v2);clear hw_ B2;have B3 := Bx;clear Bx;rw [show decide (0 ≤ m.al ∧ m.al ≤ 100000) = Be m.al from rfl];cases h_al : Be m.al
 ·
  have hN : Hid (R = false) := by unfold Hid; rw [hR.out]; unfold Aq; rw [h_li.out, h_ep.out, h_al]; rfl
  clear h_al;go_wp2
  go_ret
  exact ⟨by rw [hN.out]; rfl, B3⟩
 replace h_al : Hid _ := h_al;have x0 := A.all;go_wp2_with fail
 go_at_call 58
 clear x0;refine (Ia ad cap m.lg v2 hv1 hl).mono ?_;rintro e v3 ⟨rfl, kq⟩;have A := A.below kq A.lt;have hv1 := hv1.below kq (hv1.lt Aa (by omega));have B4 := AA B3 kq;clear kq B3;cases h_in : Co m.lg
 ·
  have hN : Hid (R = false) := by unfold Hid; rw [hR.out]; unfold Aq; rw [h_li.out, h_ep.out, h_al.out, h_in]; rfl
  clear h_in;go_wp2
  go_ret
  exact ⟨by rw [hN.out]; rfl, B4⟩
 replace h_in : Hid _ := h_in;have x0 := A.all;go_wp2_with fail
 go_at_call 65
 clear x0;refine (BM m.sd 0 (m.lg.length : Int) v3).mono ?_;rintro e v4 ⟨rfl, hw_⟩;have A := (by rw [hw_]; exact A : Ag v4 w.heap.size m (.slice ad m.lg.length cap));have hv1 := (by rw [hw_]; exact hv1 : AH AS v4 ad m.lg);have Bx := (by rw [hw_]; exact B4 : Bw w v4);clear hw_ B4;have B5 := Bx;clear Bx;cases h_sd : decide (0 ≤ m.sd ∧ m.sd ≤ (m.lg.length : Int))
 ·
  have hN : Hid (R = false) := by unfold Hid; rw [hR.out]; unfold Aq; rw [h_li.out, h_ep.out, h_al.out, h_in.out, h_sd]; rfl
  clear h_sd;go_wp2
  go_ret
  exact ⟨by rw [hN.out]; rfl, B5⟩
 replace h_sd : Hid _ := h_sd;have x0 := A.all;go_wp2_with fail
 go_at_call 65
 clear x0;refine (BM m.ac 0 (m.lg.length : Int) v4).mono ?_;rintro e v5 ⟨rfl, hw_⟩;have A := (by rw [hw_]; exact A : Ag v5 w.heap.size m (.slice ad m.lg.length cap));have hv1 := (by rw [hw_]; exact hv1 : AH AS v5 ad m.lg);have Bx := (by rw [hw_]; exact B5 : Bw w v5);clear hw_ B5;have B6 := Bx;clear Bx;cases h_ac : decide (0 ≤ m.ac ∧ m.ac ≤ (m.lg.length : Int))
 ·
  have hN : Hid (R = false) := by unfold Hid; rw [hR.out]; unfold Aq; rw [h_li.out, h_ep.out, h_al.out, h_in.out, h_sd.out, h_ac]; rfl
  clear h_ac;go_wp2
  go_ret
  exact ⟨by rw [hN.out]; rfl, B6⟩
 replace h_ac : Hid _ := h_ac;obtain ⟨x0, x1, x2, x3, x4, x5, x6⟩ := A;cases hU : m.up
 ·
  rw [hU] at x0;by_cases e1 : m.ep = 0
  ·
   have d1 : (m.ep == 0) = true := by simpa using e1
   by_cases e2 : (m.lg.length : Int) = 0
   ·
    have d2 : ((m.lg.length : Int) == 0) = true := by simpa using e2
    have e2' : m.lg.length = 0 := by omega
    have hN : Hid (R = (m.al == 0)) := by unfold Hid; rw [hR.out]; unfold Aq; rw [h_li.out, h_ep.out, h_al.out, h_in.out, h_sd.out, h_ac.out, hU, decide_eq_true e1, decide_eq_true e2']; by_cases e3 : m.al = 0 <;> simp [e3]
    clear e1 e2 e2';go_wp2
    go_ret
    exact ⟨by rw [hN.out]; rfl, B6⟩
   have d2 : ((m.lg.length : Int) == 0) = false := by rw [beq_eq_false_iff_ne]; exact e2
   have e2' : ¬ m.lg.length = 0 := by omega
   have hN : Hid (R = false) := by unfold Hid; rw [hR.out]; unfold Aq; rw [h_li.out, h_ep.out, h_al.out, h_in.out, h_sd.out, h_ac.out, hU, decide_eq_false e2']; simp
   clear e1 e2 e2';go_wp2
   go_ret
   exact ⟨by rw [hN.out]; rfl, B6⟩
  have d1 : (m.ep == 0) = false := by rw [beq_eq_false_iff_ne]; exact e1
  have hN : Hid (R = false) := by unfold Hid; rw [hR.out]; unfold Aq; rw [h_li.out, h_ep.out, h_al.out, h_in.out, h_sd.out, h_ac.out, hU, decide_eq_false e1]; rfl
  clear e1;go_wp2
  go_ret
  exact ⟨by rw [hN.out]; rfl, B6⟩
 rw [hU] at x0;have hN : Hid (R = true) := by unfold Hid; rw [hR.out]; unfold Aq; rw [h_li.out, h_ep.out, h_al.out, h_in.out, h_sd.out, h_ac.out, hU]; rfl
 go_wp2
 go_ret
 exact ⟨by rw [hN.out]; rfl, B6⟩
attribute [local go_sem] ji ja mc
theorem AV.put {w : World} {q : Nat} {m : Mi} {v : Value} (h : AV w q m v) (m' : Mi) (v' : Value) : AV (((((((w.setCell (ja q 0) (.bool m'.up)).setCell (ja q 1) (ji m'.li)).setCell (ja q 2) (ji m'.ep)).setCell (ja q 3) (v')).setCell (ja q 4) (ji m'.sd)).setCell (ja q 5) (ji m'.ac)).setCell (ja q 6) (ji m'.al)) q m' v' := by
 obtain ⟨h0, h1, h2, h3, h4, h5, h6, hf⟩ := h;have h0 : (w.setCell (ja q 0) (.bool m'.up)).cell? (ja q 0) = some (.bool m'.up) := Aj h0;have h1 : (w.setCell (ja q 0) (.bool m'.up)).cell? (ja q 1) = _ := (AC (by decide)).trans h1;have h2 : (w.setCell (ja q 0) (.bool m'.up)).cell? (ja q 2) = _ := (AC (by decide)).trans h2;have h3 : (w.setCell (ja q 0) (.bool m'.up)).cell? (ja q 3) = _ := (AC (by decide)).trans h3;have h4 : (w.setCell (ja q 0) (.bool m'.up)).cell? (ja q 4) = _ := (AC (by decide)).trans h4;have h5 : (w.setCell (ja q 0) (.bool m'.up)).cell? (ja q 5) = _ := (AC (by decide)).trans h5;have h6 : (w.setCell (ja q 0) (.bool m'.up)).cell? (ja q 6) = _ := (AC (by decide)).trans h6;have h0 : ((w.setCell (ja q 0) (.bool m'.up)).setCell (ja q 1) (ji m'.li)).cell? (ja q 0) = _ := (AC (by decide)).trans h0;have h1 : ((w.setCell (ja q 0) (.bool m'.up)).setCell (ja q 1) (ji m'.li)).cell? (ja q 1) = some (ji m'.li) := Aj h1;have h2 : ((w.setCell (ja q 0) (.bool m'.up)).setCell (ja q 1) (ji m'.li)).cell? (ja q 2) = _ := (AC (by decide)).trans h2;have h3 : ((w.setCell (ja q 0) (.bool m'.up)).setCell (ja q 1) (ji m'.li)).cell? (ja q 3) = _ := (AC (by decide)).trans h3;have h4 : ((w.setCell (ja q 0) (.bool m'.up)).setCell (ja q 1) (ji m'.li)).cell? (ja q 4) = _ := (AC (by decide)).trans h4;have h5 : ((w.setCell (ja q 0) (.bool m'.up)).setCell (ja q 1) (ji m'.li)).cell? (ja q 5) = _ := (AC (by decide)).trans h5;have h6 : ((w.setCell (ja q 0) (.bool m'.up)).setCell (ja q 1) (ji m'.li)).cell? (ja q 6) = _ := (AC (by decide)).trans h6;have h0 : (((w.setCell (ja q 0) (.bool m'.up)).setCell (ja q 1) (ji m'.li)).setCell (ja q 2) (ji m'.ep)).cell? (ja q 0) = _ := (AC (by decide)).trans h0;have h1 : (((w.setCell (ja q 0) (.bool m'.up)).setCell (ja q 1) (ji m'.li)).setCell (ja q 2) (ji m'.ep)).cell? (ja q 1) = _ := (AC (by decide)).trans h1;have h2 : (((w.setCell (ja q 0) (.bool m'.up)).setCell (ja q 1) (ji m'.li)).setCell (ja q 2) (ji m'.ep)).cell? (ja q 2) = some (ji m'.ep) := Aj h2;have h3 : (((w.setCell (ja q 0) (.bool m'.up)).setCell (ja q 1) (ji m'.li)).setCell (ja q 2) (ji m'.ep)).cell? (ja q 3) = _ := (AC (by decide)).trans h3;have h4 : (((w.setCell (ja q 0) (.bool m'.up)).setCell (ja q 1) (ji m'.li)).setCell (ja q 2) (ji m'.ep)).cell? (ja q 4) = _ := (AC (by decide)).trans h4;have h5 : (((w.setCell (ja q 0) (.bool m'.up)).setCell (ja q 1) (ji m'.li)).setCell (ja q 2) (ji m'.ep)).cell? (ja q 5) = _ := (AC (by decide)).trans h5;have h6 : (((w.setCell (ja q 0) (.bool m'.up)).setCell (ja q 1) (ji m'.li)).setCell (ja q 2) (ji m'.ep)).cell? (ja q 6) = _ := (AC (by decide)).trans h6;have h0 : ((((w.setCell (ja q 0) (.bool m'.up)).setCell (ja q 1) (ji m'.li)).setCell (ja q 2) (ji m'.ep)).setCell (ja q 3) (v')).cell? (ja q 0) = _ := (AC (by decide)).trans h0;have h1 : ((((w.setCell (ja q 0) (.bool m'.up)).setCell (ja q 1) (ji m'.li)).setCell (ja q 2) (ji m'.ep)).setCell (ja q 3) (v')).cell? (ja q 1) = _ := (AC (by decide)).trans h1;have h2 : ((((w.setCell (ja q 0) (.bool m'.up)).setCell (ja q 1) (ji m'.li)).setCell (ja q 2) (ji m'.ep)).setCell (ja q 3) (v')).cell? (ja q 2) = _ := (AC (by decide)).trans h2;have h3 : ((((w.setCell (ja q 0) (.bool m'.up)).setCell (ja q 1) (ji m'.li)).setCell (ja q 2) (ji m'.ep)).setCell (ja q 3) (v')).cell? (ja q 3) = some (v') := Aj h3;have h4 : ((((w.setCell (ja q 0) (.bool m'.up)).setCell (ja q 1) (ji m'.li)).setCell (ja q 2) (ji m'.ep)).setCell (ja q 3) (v')).cell? (ja q 4) = _ := (AC (by decide)).trans h4;have h5 : ((((w.setCell (ja q 0) (.bool m'.up)).setCell (ja q 1) (ji m'.li)).setCell (ja q 2) (ji m'.ep)).setCell (ja q 3) (v')).cell? (ja q 5) = _ := (AC (by decide)).trans h5;have h6 : ((((w.setCell (ja q 0) (.bool m'.up)).setCell (ja q 1) (ji m'.li)).setCell (ja q 2) (ji m'.ep)).setCell (ja q 3) (v')).cell? (ja q 6) = _ := (AC (by decide)).trans h6;have h0 : (((((w.setCell (ja q 0) (.bool m'.up)).setCell (ja q 1) (ji m'.li)).setCell (ja q 2) (ji m'.ep)).setCell (ja q 3) (v')).setCell (ja q 4) (ji m'.sd)).cell? (ja q 0) = _ := (AC (by decide)).trans h0;have h1 : (((((w.setCell (ja q 0) (.bool m'.up)).setCell (ja q 1) (ji m'.li)).setCell (ja q 2) (ji m'.ep)).setCell (ja q 3) (v')).setCell (ja q 4) (ji m'.sd)).cell? (ja q 1) = _ := (AC (by decide)).trans h1;have h2 : (((((w.setCell (ja q 0) (.bool m'.up)).setCell (ja q 1) (ji m'.li)).setCell (ja q 2) (ji m'.ep)).setCell (ja q 3) (v')).setCell (ja q 4) (ji m'.sd)).cell? (ja q 2) = _ := (AC (by decide)).trans h2;have h3 : (((((w.setCell (ja q 0) (.bool m'.up)).setCell (ja q 1) (ji m'.li)).setCell (ja q 2) (ji m'.ep)).setCell (ja q 3) (v')).setCell (ja q 4) (ji m'.sd)).cell? (ja q 3) = _ := (AC (by decide)).trans h3;have h4 : (((((w.setCell (ja q 0) (.bool m'.up)).setCell (ja q 1) (ji m'.li)).setCell (ja q 2) (ji m'.ep)).setCell (ja q 3) (v')).setCell (ja q 4) (ji m'.sd)).cell? (ja q 4) = some (ji m'.sd) := Aj h4;have h5 : (((((w.setCell (ja q 0) (.bool m'.up)).setCell (ja q 1) (ji m'.li)).setCell (ja q 2) (ji m'.ep)).setCell (ja q 3) (v')).setCell (ja q 4) (ji m'.sd)).cell? (ja q 5) = _ := (AC (by decide)).trans h5;have h6 : (((((w.setCell (ja q 0) (.bool m'.up)).setCell (ja q 1) (ji m'.li)).setCell (ja q 2) (ji m'.ep)).setCell (ja q 3) (v')).setCell (ja q 4) (ji m'.sd)).cell? (ja q 6) = _ := (AC (by decide)).trans h6;have h0 : ((((((w.setCell (ja q 0) (.bool m'.up)).setCell (ja q 1) (ji m'.li)).setCell (ja q 2) (ji m'.ep)).setCell (ja q 3) (v')).setCell (ja q 4) (ji m'.sd)).setCell (ja q 5) (ji m'.ac)).cell? (ja q 0) = _ := (AC (by decide)).trans h0;have h1 : ((((((w.setCell (ja q 0) (.bool m'.up)).setCell (ja q 1) (ji m'.li)).setCell (ja q 2) (ji m'.ep)).setCell (ja q 3) (v')).setCell (ja q 4) (ji m'.sd)).setCell (ja q 5) (ji m'.ac)).cell? (ja q 1) = _ := (AC (by decide)).trans h1;have h2 : ((((((w.setCell (ja q 0) (.bool m'.up)).setCell (ja q 1) (ji m'.li)).setCell (ja q 2) (ji m'.ep)).setCell (ja q 3) (v')).setCell (ja q 4) (ji m'.sd)).setCell (ja q 5) (ji m'.ac)).cell? (ja q 2) = _ := (AC (by decide)).trans h2;have h3 : ((((((w.setCell (ja q 0) (.bool m'.up)).setCell (ja q 1) (ji m'.li)).setCell (ja q 2) (ji m'.ep)).setCell (ja q 3) (v')).setCell (ja q 4) (ji m'.sd)).setCell (ja q 5) (ji m'.ac)).cell? (ja q 3) = _ := (AC (by decide)).trans h3;have h4 : ((((((w.setCell (ja q 0) (.bool m'.up)).setCell (ja q 1) (ji m'.li)).setCell (ja q 2) (ji m'.ep)).setCell (ja q 3) (v')).setCell (ja q 4) (ji m'.sd)).setCell (ja q 5) (ji m'.ac)).cell? (ja q 4) = _ := (AC (by decide)).trans h4;have h5 : ((((((w.setCell (ja q 0) (.bool m'.up)).setCell (ja q 1) (ji m'.li)).setCell (ja q 2) (ji m'.ep)).setCell (ja q 3) (v')).setCell (ja q 4) (ji m'.sd)).setCell (ja q 5) (ji m'.ac)).cell? (ja q 5) = some (ji m'.ac) := Aj h5;have h6 : ((((((w.setCell (ja q 0) (.bool m'.up)).setCell (ja q 1) (ji m'.li)).setCell (ja q 2) (ji m'.ep)).setCell (ja q 3) (v')).setCell (ja q 4) (ji m'.sd)).setCell (ja q 5) (ji m'.ac)).cell? (ja q 6) = _ := (AC (by decide)).trans h6;have h0 : (((((((w.setCell (ja q 0) (.bool m'.up)).setCell (ja q 1) (ji m'.li)).setCell (ja q 2) (ji m'.ep)).setCell (ja q 3) (v')).setCell (ja q 4) (ji m'.sd)).setCell (ja q 5) (ji m'.ac)).setCell (ja q 6) (ji m'.al)).cell? (ja q 0) = _ := (AC (by decide)).trans h0;have h1 : (((((((w.setCell (ja q 0) (.bool m'.up)).setCell (ja q 1) (ji m'.li)).setCell (ja q 2) (ji m'.ep)).setCell (ja q 3) (v')).setCell (ja q 4) (ji m'.sd)).setCell (ja q 5) (ji m'.ac)).setCell (ja q 6) (ji m'.al)).cell? (ja q 1) = _ := (AC (by decide)).trans h1;have h2 : (((((((w.setCell (ja q 0) (.bool m'.up)).setCell (ja q 1) (ji m'.li)).setCell (ja q 2) (ji m'.ep)).setCell (ja q 3) (v')).setCell (ja q 4) (ji m'.sd)).setCell (ja q 5) (ji m'.ac)).setCell (ja q 6) (ji m'.al)).cell? (ja q 2) = _ := (AC (by decide)).trans h2;have h3 : (((((((w.setCell (ja q 0) (.bool m'.up)).setCell (ja q 1) (ji m'.li)).setCell (ja q 2) (ji m'.ep)).setCell (ja q 3) (v')).setCell (ja q 4) (ji m'.sd)).setCell (ja q 5) (ji m'.ac)).setCell (ja q 6) (ji m'.al)).cell? (ja q 3) = _ := (AC (by decide)).trans h3;have h4 : (((((((w.setCell (ja q 0) (.bool m'.up)).setCell (ja q 1) (ji m'.li)).setCell (ja q 2) (ji m'.ep)).setCell (ja q 3) (v')).setCell (ja q 4) (ji m'.sd)).setCell (ja q 5) (ji m'.ac)).setCell (ja q 6) (ji m'.al)).cell? (ja q 4) = _ := (AC (by decide)).trans h4;have h5 : (((((((w.setCell (ja q 0) (.bool m'.up)).setCell (ja q 1) (ji m'.li)).setCell (ja q 2) (ji m'.ep)).setCell (ja q 3) (v')).setCell (ja q 4) (ji m'.sd)).setCell (ja q 5) (ji m'.ac)).setCell (ja q 6) (ji m'.al)).cell? (ja q 5) = _ := (AC (by decide)).trans h5;have h6 : (((((((w.setCell (ja q 0) (.bool m'.up)).setCell (ja q 1) (ji m'.li)).setCell (ja q 2) (ji m'.ep)).setCell (ja q 3) (v')).setCell (ja q 4) (ji m'.sd)).setCell (ja q 5) (ji m'.ac)).setCell (ja q 6) (ji m'.al)).cell? (ja q 6) = some (ji m'.al) := Aj h6;refine ⟨h0, h1, h2, h3, h4, h5, h6, fun i => ?_⟩;rw [World.frozen?_setCell, World.frozen?_setCell, World.frozen?_setCell, World.frozen?_setCell, World.frozen?_setCell, World.frozen?_setCell, World.frozen?_setCell];exact hf i
theorem Dd (w : World) (q k : Nat) (m' : Mi) (v' : Value) (h : k ≠ q) : ((((((((w.setCell (ja q 0) (.bool m'.up)).setCell (ja q 1) (ji m'.li)).setCell (ja q 2) (ji m'.ep)).setCell (ja q 3) (v')).setCell (ja q 4) (ji m'.sd)).setCell (ja q 5) (ji m'.ac)).setCell (ja q 6) (ji m'.al))).heap[k]? = w.heap[k]? := by
 rw [AE h, AE h, AE h, AE h, AE h, AE h, AE h]
theorem EJ {a w : World} {q n : Nat} (m' : Mi) (v' : Value) (h : Below n a w) (hq : n ≤ q) : Below n a (((((((w.setCell (ja q 0) (.bool m'.up)).setCell (ja q 1) (ji m'.li)).setCell (ja q 2) (ji m'.ep)).setCell (ja q 3) (v')).setCell (ja q 4) (ji m'.sd)).setCell (ja q 5) (ji m'.ac)).setCell (ja q 6) (ji m'.al)) := (((((((h.setCell (p := (ja q 0)) hq _).setCell (p := (ja q 1)) hq _).setCell (p := (ja q 2)) hq _).setCell (p := (ja q 3)) hq _).setCell (p := (ja q 4)) hq _).setCell (p := (ja q 5)) hq _).setCell (p := (ja q 6)) hq _)
theorem Ej (m : Mi) (ad : Option Addr) (cap : Nat) (w : World) (hv : AH AS w ad m.lg) (hl : m.lg.length ≤ 1048577) (hn : ad = none → cap = 0) :
  Calls prog 105 #[.agg #[.bool m.up, ji m.li, ji m.ep, .slice ad m.lg.length cap, ji m.sd, ji m.ac, ji m.al]] w fun e w' => ∃ a c, e = .returned (.agg #[.bool m.up, ji m.li, ji m.ep, .slice a m.lg.length c, ji m.sd, ji m.ac, ji m.al]) ∧ AD AS 8 64 w.heap.size w' (.slice a m.lg.length c) m.lg ∧ Bw w w' := by
 have hB := hv.lt Aa (by omega);obtain ⟨y, hy⟩ := AB ((w.alloc (Obj.cells (mc m ad cap) 52)).alloc (Obj.cells #[.bool false, ji 0, ji 0, .slice none 0 0, ji 0, ji 0, ji 0] 52));have B0 : Bw w y := by rw [hy]; exact ((Below.refl _ _).alloc (Nat.le_refl _) _).alloc (by simp) _
 have A0 : AV y w.heap.size m (.slice ad m.lg.length cap) := by rw [hy]; constructor <;> simp [go_sem]
 have A1 : AV y (w.heap.size + 1) ⟨false, 0, 0, [], 0, 0, 0⟩ (.slice none 0 0) := by rw [hy]; constructor <;> simp [go_sem]
 have S0 := A1.lt;have hv1 := hv.below B0 hB;have hB1 := hv1.lt Aa (by omega);obtain ⟨i1, hj, hy0, hy1, hy2⟩ := info_parts Eo;have kx : Bw y (y.alloc (Obj.cells #[] 64)) := Al _;have hv2 := hv1.below kx hB1;have oE : AD AS 8 64 y.heap.size (y.alloc (Obj.cells #[] 64)) (.slice (some (ja y.heap.size 0)) 0 0) ([] : List Ik) := AD.empty y;have A0x := A0.below kx A0.lt;have A1x := A1.below kx A1.lt;go_enter func105, ntmps105
 go_upto_region 1 with fail
 rw [← hy];clear hy;obtain ⟨x0, x1, x2, x3, x4, x5, x6, xf⟩ := id A0x;go_wp2_with (first | (at_builtin; refine DX Aa Ec rfl _ _ 31 rfl y.heap.size 64 i1 (.agg #[ji 0, ji 0, ji 0, ji 0, ji 0, ji 0, ji 0, .bool false]) 64 underlying31 hj hy0 hy1 hy2 rfl (by decide) (by decide) _ ([] : List Ik) rfl oE ad cap m.lg rfl hn hv2 ?z0 ?z1 ?_) | go_in)
 case z0 => simp; omega
 case z1 => simp
 intro vZ w1 hownZ hgrowZ _;have bZ : Bw y w1 := kx.grown hgrowZ (by simp) (fun j e => (oE.lt j e).1);replace hownZ : AD AS 8 64 y.heap.size w1 vZ m.lg := hownZ;obtain ⟨a1, c1, rfl⟩ := hownZ.open_;clear hgrowZ x0 x1 x2 x3 x4 x5 x6 xf A0x A1x hv2 kx oE;have A0 := A0.below bZ A0.lt;have A1 := A1.below bZ A1.lt;have A2 := A0.log (.slice a1 m.lg.length c1);have A3 := A1.keep (w' := w1.setCell (ja w.heap.size 3) (.slice a1 m.lg.length c1)) (AE (by show w.heap.size + 1 ≠ w.heap.size; omega));have lo := hownZ.lt;have O2 : AD AS 8 64 y.heap.size (w1.setCell (ja w.heap.size 3) (.slice a1 m.lg.length c1)) (.slice a1 m.lg.length c1) m.lg := hownZ.keep (fun g e => AE (by have := lo g e; show g ≠ w.heap.size; omega));have B2 : Bw w (w1.setCell (ja w.heap.size 3) (.slice a1 m.lg.length c1)) := (AA B0 bZ).setCell (p := (ja w.heap.size 3)) (Nat.le_refl _) _;clear bZ B0 hownZ hv1 hB1 hv hB;have x3 := A0.c3;have xf := A0.fr 3;clear A0 A1;go_upto_region 2 with fail
 obtain ⟨w2, hw2⟩ := AB (w1.setCell (ja w.heap.size 3) (.slice a1 m.lg.length c1));rw [← hw2] at A2 A3 O2 B2 ⊢;clear hw2 x3 xf;have B4 := EJ (q := w.heap.size + 1) m (.slice a1 m.lg.length c1) B2 (by omega);have O4 := (O2.base (base' := w.heap.size) (by omega)).keep (fun g e => Dd w2 (w.heap.size + 1) g m (.slice a1 m.lg.length c1) (by have := (O2.lt g e).1; omega));clear B2 O2 lo;replace A2 := A2.all;obtain ⟨z0, z1, z2, z3, z4, z5, z6, zf⟩ := A3;have g0 := zf 0;have g1 := zf 1;have g2 := zf 2;have g3 := zf 3;have g4 := zf 4;have g5 := zf 5;have g6 := zf 6;clear zf;go_wp2
 refine bodyPost_ret (v := .agg (mc m a1 c1)) (by simp [results, results105, go_sem, *]) rfl ⟨a1, c1, rfl, O4, B4⟩
theorem G6 (a b : Int) (w : World) : Calls prog 173 #[ji a, ji b] w fun e w' => e = .returned (ji (if b < a then a else b)) ∧ w' = w := by
 by_cases h : b < a
 ·
  rw [if_pos h];have d : decide (b < a) = true := decide_eq_true h;go_enter func173, ntmps173
  go_wp2
  go_ret
  exact ⟨rfl, rfl⟩
 rw [if_neg h];have d : decide (b < a) = false := decide_eq_false h;go_enter func173, ntmps173
 go_wp2
 go_ret
 exact ⟨rfl, rfl⟩
theorem Fv (r : Rg) (w : World) : Calls prog 55 #[.agg #[ji r.ep, ji r.ow, ji r.pa]] w fun e w' => e = .returned (.bool (BR r)) ∧ Bw w w' := by
 obtain ⟨R, hR⟩ := AB (BR r);rw [← hR];replace hR : Hid _ := hR;obtain ⟨y, hy, B0⟩ := AI w (Obj.cells #[ji r.ep, ji r.ow, ji r.pa] 27);have A : An y w.heap.size r := by rw [hy]; exact An.new w _ r
 go_enter func55, ntmps55
 go_upto_region 1 with fail
 rw [← hy];clear hy;have x0 := A.all;go_wp2_with fail
 go_at_call 65
 refine (BM r.ep 1 100000 y).mono ?_;rintro e v0 ⟨rfl, hw_⟩;have A := (by rw [hw_]; exact A : An v0 w.heap.size r);have B0 := (by rw [hw_]; exact B0 : Bw w v0);clear hw_;clear x0;cases h1 : decide (1 ≤ r.ep ∧ r.ep ≤ 100000)
 ·
  have hN : Hid (R = false) := by unfold Hid; rw [hR.out]; unfold BR; rw [h1]; rfl
  clear h1;go_wp2
  go_ret
  exact ⟨by rw [hN.out]; rfl, B0⟩
 replace h1 : Hid _ := h1;have x0 := A.all;go_wp2_with fail
 go_at_call 65
 refine (BM r.ow 0 1 v0).mono ?_;rintro e v1 ⟨rfl, hw_⟩;have A := (by rw [hw_]; exact A : An v1 w.heap.size r);have B0 := (by rw [hw_]; exact B0 : Bw w v1);clear hw_;clear x0;cases h2 : decide (0 ≤ r.ow ∧ r.ow ≤ 1)
 ·
  have hN : Hid (R = false) := by unfold Hid; rw [hR.out]; unfold BR; rw [h1.out, h2]; rfl
  clear h2;go_wp2
  go_ret
  exact ⟨by rw [hN.out]; rfl, B0⟩
 replace h2 : Hid _ := h2;have x0 := A.all;go_wp2_with fail
 go_at_call 65
 refine (BM r.pa 0 100000 v1).mono ?_;rintro e v2 ⟨rfl, hw_⟩;have A := (by rw [hw_]; exact A : An v2 w.heap.size r);have B0 := (by rw [hw_]; exact B0 : Bw w v2);clear hw_;clear x0;rw [show decide (0 ≤ r.pa ∧ r.pa ≤ 100000) = Be r.pa from rfl];have hN : Hid (R = Be r.pa) := by unfold Hid; rw [hR.out]; unfold BR; rw [h1.out, h2.out]; rfl
 rw [← hN.out];go_wp2
 go_ret
 exact ⟨rfl, B0⟩
theorem IE (r : Rg) (s : Int) (m : Mi) (ad : Option Addr) (cap : Nat) (w : World) (hv : AH AS w ad m.lg) (hl : m.lg.length ≤ 1048577) :
  Calls prog 106 #[.agg #[ji r.ep, ji r.ow, ji r.pa], ji s, .agg #[.bool m.up, ji m.li, ji m.ep, .slice ad m.lg.length cap, ji m.sd, ji m.ac, ji m.al]] w fun e w' => e = .returned (.bool (Cz r s m)) ∧ Bw w w' := by
 have hB := hv.lt Aa (by omega);obtain ⟨R, hR⟩ := AB (Cz r s m);rw [← hR];replace hR : Hid _ := hR;obtain ⟨y, hy⟩ := AB ((w.alloc (Obj.cells #[ji r.ep, ji r.ow, ji r.pa] 27)).alloc (Obj.cells (mc m ad cap) 52));have B0 : Bw w y := by rw [hy]; exact ((Below.refl _ _).alloc (Nat.le_refl _) _).alloc (by simp) _
 have A : An y w.heap.size r := by rw [hy]; constructor <;> simp [go_sem]
 have M : Ag y (w.heap.size + 1) m (.slice ad m.lg.length cap) := by rw [hy]; constructor <;> simp [go_sem]
 have hv1 := hv.below B0 hB;clear hv hB;go_enter func106, ntmps106
 have x0 := A.all;go_wp2_with fail
 go_at_call 55
 rw [← hy];clear x0 hy;refine (Fv r y).mono ?_;rintro e v1 ⟨rfl, k1⟩;have A := A.below k1 A.lt;have M := M.below k1 M.lt;have hv1 := hv1.below k1 (hv1.lt Aa (by omega));have B1 := AA B0 k1;clear k1 B0;cases h1 : BR r
 ·
  have hN : Hid (R = false) := by unfold Hid; rw [hR.out]; unfold Cz; rw [h1]; rfl
  clear h1;go_wp2
  go_ret
  exact ⟨by rw [hN.out]; rfl, B1⟩
 replace h1 : Hid _ := h1;have x0 := M.all;go_wp2_with fail
 go_at_call 56
 clear x0;refine (E9 m ad cap v1 hv1 hl).mono ?_;rintro e v2 ⟨rfl, k2⟩;have A := A.below k2 A.lt;have M := M.below k2 M.lt;have B2 := AA B1 k2;clear k2 B1 hv1;cases h2 : Aq m
 ·
  have hN : Hid (R = false) := by unfold Hid; rw [hR.out]; unfold Cz; rw [h1.out, h2]; rfl
  clear h2;go_wp2
  go_ret
  exact ⟨by rw [hN.out]; rfl, B2⟩
 replace h2 : Hid _ := h2;obtain ⟨x0, x1, x2, x3, x4, x5, x6⟩ := M;replace A := A.all;cases h3 : m.up
 ·
  rw [h3] at x0;have hN : Hid (R = false) := by unfold Hid; rw [hR.out]; unfold Cz; rw [h1.out, h2.out, h3]; rfl
  go_wp2
  go_ret
  exact ⟨by rw [hN.out]; rfl, B2⟩
 rw [h3] at x0;by_cases h4 : s = r.ow
 ·
  have d4 : (s == r.ow) = true := by simpa using h4
  have hN : Hid (R = (m.ep == r.ep)) := by unfold Hid; rw [hR.out]; unfold Cz; rw [h1.out, h2.out, h3, decide_eq_true h4]; by_cases h5 : m.ep = r.ep <;> simp [h5]
  replace h4 : Hid _ := h4;go_wp2
  go_ret
  exact ⟨by rw [hN.out]; rfl, B2⟩
 have d4 : (s == r.ow) = false := by rw [beq_eq_false_iff_ne]; exact h4
 have hN : Hid (R = false) := by unfold Hid; rw [hR.out]; unfold Cz; rw [h1.out, h2.out, h3, decide_eq_false h4]; rfl
 clear h4;go_wp2
 go_ret
 exact ⟨by rw [hN.out]; rfl, B2⟩
end Go.Proofs.YthgcbihhdbpbdaaGreat
namespace Go.Proofs.YthgcbihhdbpbdaaGreat
open Go.ChangeShapes Go.WideShapes Go.ChangeAt Go.RowKit
open Go.ChangeMaps (open_string shut_string)
set_option linter.unusedVariables false
set_option maxRecDepth 100000
set_option maxHeartbeats 32000000
set_option linter.unusedSimpArgs false
open Go.Proofs.Tryz
theorem F1 (id n : Int) (w : World) :
  Calls prog 14 #[ji id, ji n] w fun e w' => ∃ ad' cap', e = .returned (.tuple #[.agg #[ji (Bf id n), .slice ad' (Ap id n).length cap'], .bool (Ay id n)]) ∧ AD AJ 11 70 w.heap.size w' (.slice ad' (Ap id n).length cap') (Ap id n) ∧ Bw w w' := by
 obtain ⟨i0, hi, hz0, hz1, hz2⟩ := info_parts FW;obtain ⟨y, hy⟩ := AB ((w.alloc (Obj.cells #[ji 0, .slice none 0 0] 42)).alloc (Obj.cells #[ji id, .slice none 0 0] 42));have B0 : Bw w y := by rw [hy]; exact ((Below.refl _ _).alloc (Nat.le_refl _) _).alloc (by simp) _
 have R0 : AP y w.heap.size 0 (.slice none 0 0) := by rw [hy]; refine ⟨?_, fun i => ?_⟩; constructor <;> simp [go_sem]; simp [go_sem]
 have N0 : AP y (w.heap.size + 1) id (.slice none 0 0) := by rw [hy]; refine ⟨?_, fun i => ?_⟩; constructor <;> simp [go_sem]; simp [go_sem]
 have S0 := N0.lt;obtain ⟨IV, hI⟩ := AB (Bf id n);obtain ⟨LV, hM⟩ := AB (Ap id n);obtain ⟨NV, hN⟩ := AB (Ay id n);rw [← hI, ← hM, ← hN];obtain ⟨m, hm⟩ : ∃ m : Nat, m = (if n < 5 then n else 5).toNat := ⟨_, rfl⟩;have hm5 : m ≤ 5 := by rw [hm]; split <;> omega
 have hmn : Ay id n = Ay id (m : Int) := by
  unfold Ay;congr 1
  apply decide_eq_decide.2
  rw [hm];split <;> omega
 have hmt : Ay id n = true → n.toNat = m := by
  intro h;unfold Ay at h;simp only [Bool.and_eq_true, decide_eq_true_eq] at h;rw [hm, if_pos (by omega)]
 obtain ⟨t, ht⟩ : ∃ t : Int, t = (if n < 5 then n else 5) := ⟨_, rfl⟩;have htm : t ≤ (m : Int) ∧ (0 ≤ t → t = (m : Int)) ∧ (t < 0 → m = 0) := by rw [ht, hm]; split <;> omega
 replace ht : Hid _ := ht;replace hI : Hid _ := hI;replace hM : Hid _ := hM;replace hN : Hid _ := hN;replace hmn : Hid _ := hmn;replace hmt : Hid _ := hmt;replace htm : Hid _ := htm;clear hm;go_enter func14, ntmps14
 go_wp2
 rw [← hy];clear hy;go_loopw [7] (fun i wr => ∃ k : Nat, k ≤ m ∧ i = .int .i64 (k : Int) ∧ (∃ adk capk, AD AJ 11 70 y.heap.size wr (.slice adk k capk) (List.replicate k Pt.nil) ∧ AP wr (w.heap.size + 1) id (.slice adk k capk)) ∧ AP wr w.heap.size 0 (.slice none 0 0) ∧ Below w.heap.size w wr ∧ y.heap.size ≤ wr.heap.size) (fun i _ => m - (intOf i).toNat)
 case atStart => exact ⟨0, Nat.zero_le _, rfl, ⟨none, 0, AD.nil, N0⟩, R0, B0, Nat.le_refl _⟩
 case round =>
  obtain ⟨k, hk, rfl, ⟨adk, capk, O, N1⟩, R1, B1, S1⟩ := hrel;obtain ⟨⟨n0, n1⟩, nf⟩ := N1;have N1 : AP wr (w.heap.size + 1) id (.slice adk k capk) := ⟨⟨n0, n1⟩, nf⟩;by_cases hlt : (k : Int) < t
  ·
   have dl : decide ((k : Int) < t) = true := decide_eq_true hlt;have hkm : k < m := by have := htm.out; omega
   replace hlt : Hid _ := hlt;go_wp2_with fail
   go_at_call 43
   refine (GC n 5 wr).mono ?_;rintro e w2 ⟨rfl, rfl⟩;rw [← ht.out];have V1 := AH.one w2 70 Pt.nil;have B2 := B1.alloc B1.size (Obj.cells #[.bool false, .bool false, ji 0, ji 0, ji 0, ji 0, ji 0, ji 0, ji 0, ji 0, .bool false] 70);have O2 : AD AJ 11 70 y.heap.size (w2.alloc (Obj.cells #[.bool false, .bool false, ji 0, ji 0, ji 0, ji 0, ji 0, ji 0, ji 0, ji 0, .bool false] 70)) (.slice adk k capk) (List.replicate k Pt.nil) := O.later (Al _);have hcn := O.capn;go_wp2_with (first | (at_builtin; refine DX AK GK rfl _ _ 40 rfl y.heap.size 70 i0 (.agg #[.bool false, .bool false, ji 0, ji 0, ji 0, ji 0, ji 0, ji 0, ji 0, ji 0, .bool false]) 80 underlying40 hi hz0 hz1 hz2 rfl (by decide) (by decide) (.slice adk k capk) (List.replicate k Pt.nil) rfl O2 (some (ja w2.heap.size 0)) 1 [Pt.nil] rfl (fun e => by cases e) V1 ?z0 ?z1 ?_) | go_in)
   case z0 => simp; omega
   case z1 => simp; omega
   intro vZ wZ hownZ hgrowZ _;have hownZ : AD AJ 11 70 y.heap.size wZ vZ (List.replicate (k + 1) Pt.nil) := by rw [List.replicate_succ']; exact hownZ
   have ho : ∀ g, (Value.slice adk k capk).ownBlock = some g → y.heap.size ≤ g := fun g e => (O2.lt g e).1
   have BZ : Bw w wZ := B2.grown hgrowZ B2.size (fun g e => by have := ho g e; omega);have NZ : AP wZ (w.heap.size + 1) id (.slice adk k capk) := (N1.below (Al _) N1.lt).keep (hgrowZ.block _ (by have := N1.lt; simp; omega) (fun e => by have := ho _ e.symm; omega));have RZ : AP wZ w.heap.size 0 (.slice none 0 0) := (R1.below (Al _) R1.lt).keep (hgrowZ.block _ (by have := R1.lt; simp; omega) (fun e => by have := ho _ e.symm; omega));have SZ : y.heap.size ≤ wZ.heap.size := by have := hgrowZ.size; simp at this; omega
   obtain ⟨aZ, cZ, hvz⟩ := hownZ.open_;rw [List.length_replicate] at hvz;subst hvz;clear hgrowZ V1 B2 O2 n0 n1 nf N1 R1 O ho hcn;obtain ⟨⟨q0, q1⟩, qf⟩ := NZ;have NZ : AP wZ (w.heap.size + 1) id (.slice adk k capk) := ⟨⟨q0, q1⟩, qf⟩;have NS : AP (wZ.setCell ⟨w.heap.size + 1, 1, none⟩ (.slice aZ (k + 1) cZ)) (w.heap.size + 1) id (.slice aZ (k + 1) cZ) := ⟨⟨(AC (by decide)).trans q0, Aj q1⟩, fun i => by rw [World.frozen?_setCell]; exact qf i⟩;have RS : AP (wZ.setCell ⟨w.heap.size + 1, 1, none⟩ (.slice aZ (k + 1) cZ)) w.heap.size 0 (.slice none 0 0) := RZ.keep (AE (by show w.heap.size ≠ w.heap.size + 1; omega));have OS : AD AJ 11 70 y.heap.size (wZ.setCell ⟨w.heap.size + 1, 1, none⟩ (.slice aZ (k + 1) cZ)) (.slice aZ (k + 1) cZ) (List.replicate (k + 1) Pt.nil) := hownZ.keep fun g' e => AE (by have := (hownZ.lt g' e).1; show g' ≠ w.heap.size + 1; omega)
   have BS := BZ.setCell (p := ⟨w.heap.size + 1, 1, none⟩) (by show _ ≤ w.heap.size + 1; omega) (.slice aZ (k + 1) cZ);clear NZ RZ hownZ BZ;go_wp2
   go_roundw
   case rel => exact ⟨k + 1, by omega, by go_num, ⟨aZ, cZ, OS, NS⟩, RS, BS, by simpa using SZ⟩
   case measure => simp [intOf]; omega
  have dl : decide ((k : Int) < t) = false := decide_eq_false hlt;have hkm : Hid (k = m) := by unfold Hid; have := htm.out; omega
  replace hlt : Hid _ := hlt;go_wp2_with fail
  go_at_call 43
  refine (GC n 5 wr).mono ?_;rintro e w2 ⟨rfl, rfl⟩;rw [← ht.out];have hc := FC id adk capk (List.replicate k Pt.nil) w2 (by have := O.view.2; exact this) (by rw [List.length_replicate]; omega);rw [List.length_replicate, H9, hkm.out, ← hmn.out, ← hkm.out] at hc;go_wp2_with fail
  go_at_call 44
  refine hc.mono ?_;rintro e w3 ⟨rfl, k3⟩;have R3 := R1.below k3 R1.lt;have N3 := N1.below k3 N1.lt;have O3 := O.later k3;have B3 := AA B1 k3;clear hc k3 n0 n1 nf R1 N1 O;cases he : Ay id n with
  | false =>
   replace hI : Hid (IV = 0) := by unfold Hid; rw [hI.out]; unfold Bf; rw [he]; rfl
   replace hM : Hid (LV = []) := by unfold Hid; rw [hM.out]; unfold Ap; rw [he]; rfl
   replace hN : Hid (NV = false) := by unfold Hid; rw [hN.out, he]
   clear he;have RP := R3.put 0 (.slice none 0 0);obtain ⟨⟨r0, r1⟩, rf⟩ := R3;have BZ := (B3.setCell (p := (ja w.heap.size 0)) (Nat.le_refl w.heap.size) (ji 0)).setCell (p := (ja w.heap.size 1)) (Nat.le_refl w.heap.size) (.slice none 0 0);obtain ⟨⟨p0, p1⟩, _⟩ := RP;go_wp2
   refine bodyPost_ret (v := .tuple #[.agg #[ji 0, .slice none 0 0], .bool false]) (by simp [results, results14, go_sem, *]) rfl ⟨none, 0, by rw [hI.out, hM.out, hN.out]; rfl, by rw [hM.out]; exact AD.nil, BZ⟩
  | true =>
   have hRl : Hid (LV.length = k) := by unfold Hid; rw [hM.out]; unfold Ap; rw [he, if_pos rfl, List.length_replicate, hmt.out he, hkm.out]
   replace hI : Hid (IV = id) := by unfold Hid; rw [hI.out]; unfold Bf; rw [he]; rfl
   replace hM : Hid (LV = List.replicate k Pt.nil) := by unfold Hid; rw [hM.out]; unfold Ap; rw [he, if_pos rfl, hmt.out he, hkm.out]
   replace hN : Hid (NV = true) := by unfold Hid; rw [hN.out, he]
   clear he hkm;have RP := R3.put id (.slice adk k capk);obtain ⟨⟨r0, r1⟩, rf⟩ := R3;obtain ⟨⟨n0, n1⟩, nf⟩ := N3;have BZ := (B3.setCell (p := (ja w.heap.size 0)) (Nat.le_refl w.heap.size) (ji id)).setCell (p := (ja w.heap.size 1)) (Nat.le_refl w.heap.size) (.slice adk k capk);have OZ : AD AJ 11 70 w.heap.size ((w3.setCell (ja w.heap.size 0) (ji id)).setCell (ja w.heap.size 1) (.slice adk k capk)) (.slice adk k capk) (List.replicate k Pt.nil) := (O3.base (by omega)).keep fun g' e => by
    have := (O3.lt g' e).1;rw [AE (by show g' ≠ w.heap.size; omega), AE (by show g' ≠ w.heap.size; omega)]
   obtain ⟨⟨p0, p1⟩, _⟩ := RP;go_wp2
   refine bodyPost_ret (v := .tuple #[.agg #[ji id, .slice adk k capk], .bool true]) (by simp [results, results14, go_sem, *]) rfl ⟨adk, capk, by rw [hI.out, hN.out, hRl.out], by rw [hRl.out, hM.out]; exact OZ, BZ⟩
attribute [local go_sem] ji ja mc ic
theorem AH.oneK (w : World) (t : TypeId) (x : Ik) : AH AS (w.alloc (Obj.cells #[ji x.k, ji x.q, ji x.r, ji x.c, ji x.b, ji x.p, ji x.h, .bool x.up] t)) (some (ja w.heap.size 0)) [x] := by
 intro _;refine ⟨w.heap.size, 0, rfl, fun j v hv => ?_⟩;simp only [Ac, AS, List.append_nil] at hv;have hj : j < 8 := (List.getElem?_eq_some_iff.1 hv).1;rcases (by omega : j = 0 ∨ j = 1 ∨ j = 2 ∨ j = 3 ∨ j = 4 ∨ j = 5 ∨ j = 6 ∨ j = 7) with rfl | rfl | rfl | rfl | rfl | rfl | rfl | rfl <;> (cases hv; simp [go_sem])
theorem Gv (m : Mi) (x : Ik) (ad : Option Addr) (cap : Nat) (w : World) (hv : AH AS w ad m.lg) (hl : m.lg.length ≤ 1048576) (hn : ad = none → cap = 0) :
  Calls prog 196 #[.agg #[.bool m.up, ji m.li, ji m.ep, .slice ad m.lg.length cap, ji m.sd, ji m.ac, ji m.al], .agg #[ji x.k, ji x.q, ji x.r, ji x.c, ji x.b, ji x.p, ji x.h, .bool x.up]] w fun e w' => ∃ a c, e = .returned (.tuple #[.agg #[.bool (AQ m x).up, ji (AQ m x).li, ji (AQ m x).ep, .slice a (AQ m x).lg.length c, ji (AQ m x).sd, ji (AQ m x).ac, ji (AQ m x).al], .bool (DR m x)]) ∧ AD AS 8 64 w.heap.size w' (.slice a (AQ m x).lg.length c) (AQ m x).lg ∧ Bw w w' := by
 have hB := hv.lt Aa (by omega);obtain ⟨y, hy⟩ := AB (((w.alloc (Obj.cells (mc m ad cap) 52)).alloc (Obj.cells (ic x) 64)).alloc (Obj.cells #[.bool false, ji 0, ji 0, .slice none 0 0, ji 0, ji 0, ji 0] 52));have B0 : Bw w y := by rw [hy]; exact (((Below.refl _ _).alloc (Nat.le_refl _) _).alloc (by simp) _).alloc (by simp; omega) _
 have A0 : Ag y w.heap.size m (.slice ad m.lg.length cap) := by rw [hy]; constructor <;> simp [go_sem]
 have X0 : A8 y (w.heap.size + 1) x := by rw [hy]; constructor <;> simp [go_sem]
 have A1 : AV y (w.heap.size + 1 + 1) ⟨false, 0, 0, [], 0, 0, 0⟩ (.slice none 0 0) := by rw [hy]; constructor <;> simp [go_sem]
 have S0 := A1.lt;have hv1 := hv.below B0 hB;clear hv hB;obtain ⟨i1, hj, hy0, hy1, hy2⟩ := info_parts Eo;have HV : ∀ a, ad = some a → 0 < m.lg.length → a.block < y.heap.size := hv1.lt Aa (by omega);go_enter func196, ntmps196
 have x0 := A0.all;go_wp2_with fail
 go_at_call 105
 rw [← hy];clear x0 hy;refine (Ej m ad cap y hv1 (by omega) hn).mono ?_;rintro e u1 ⟨a1, c1, rfl, O1, k1⟩;have B1 := AA B0 k1;have A0 := A0.below k1 A0.lt;have X0 := X0.below k1 X0.lt;have A1 := A1.below k1 A1.lt;have hv1 := hv1.below k1 (hv1.lt Aa (by omega));have s1 := k1.size;have lo1 := O1.lt;clear k1 B0;obtain ⟨u2, hu2, k2⟩ := AI u1 (Obj.cells (mc m a1 c1) 52);have N : AV u2 u1.heap.size m (.slice a1 m.lg.length c1) := by rw [hu2]; exact AV.new u1 _ _ _
 have B2 := AA B1 k2;have A0 := A0.below k2 A0.lt;have X0 := X0.below k2 X0.lt;have A1 := A1.below k2 A1.lt;have hv1 := hv1.below k2 (hv1.lt Aa (by omega));have O1 := O1.later k2;have s2 := N.lt;have s2' := k2.size;obtain ⟨q, hq⟩ := AB u1.heap.size;go_upto_region 2 with fail
 rw [← hu2];clear hu2 k2 B1;rw [← hq] at N s2 lo1 s1 s2' ⊢;clear hq;have V1 := AH.oneK u2 64 x;have kx : Bw u2 (u2.alloc (Obj.cells (ic x) 64)) := Al _;have O4 := O1.later kx;have N4 := N.below kx N.lt;have X4 := X0.below kx X0.lt;obtain ⟨n0, n1, n2, n3, n4, n5, n6, nf⟩ := id N4;obtain ⟨e0, e1, e2, e3, e4, e5, e6, e7⟩ := id X0;have p0 := N.all;go_wp2_with (first | (at_builtin; refine DX Aa Ec rfl _ _ 31 rfl y.heap.size 64 i1 (.agg #[ji 0, ji 0, ji 0, ji 0, ji 0, ji 0, ji 0, .bool false]) 64 underlying31 hj hy0 hy1 hy2 rfl (by decide) (by decide) (.slice a1 m.lg.length c1) m.lg rfl O4 (some (ja u2.heap.size 0)) 1 [x] rfl (fun e => by cases e) V1 ?z0 ?z1 ?_) | go_in)
 case z0 => simp; omega
 case z1 => first | omega | (simp; omega)
 intro vZ w1 hownZ hgrowZ hob;have hqo : ∀ g, vZ.ownBlock = some g → g ≠ q := fun g e => by
  rcases hob with h | h
  ·
   rw [h] at e; have := lo1 g e; omega
  rw [h] at e; have e2 := Option.some.inj e; have := kx.size; omega
 have bZ : Below y.heap.size u2 w1 := (kx.mono (by omega)).grown hgrowZ (by have := kx.size; omega) (fun j e => (O4.lt j e).1);have bq : ∀ k, k < u2.heap.size → (∀ g, (Value.slice a1 m.lg.length c1).ownBlock = some g → k ≠ g) → w1.heap[k]? = u2.heap[k]? := fun k hk he => (hgrowZ.block k (Nat.lt_of_lt_of_le hk kx.size) (fun e => he k e.symm rfl)).trans (kx.block k hk)
 replace hownZ : AD AS 8 64 y.heap.size w1 vZ (Cn m x).lg := hownZ;obtain ⟨a2, c2, rfl⟩ := hownZ.open_;clear p0 n0 n1 n2 n3 n4 n5 n6 nf e0 e1 e2 e3 e4 e5 e6 e7 N4 X4 V1 O4 hgrowZ;have N := N.keep (bq q N.lt (fun g e => by have := lo1 g e; omega));have A0 := A0.keep (bq _ A0.lt (fun g e => by have := lo1 g e; omega));have A1 := A1.keep (bq _ A1.lt (fun g e => by have := lo1 g e; omega));have hv1 := hv1.carry (fun a e p => bZ.block _ (HV a e p));have s3 := bZ.size;have B3 := B2.trans (bZ.mono (by omega));have lo2 := hownZ.lt;clear bq kx bZ B2 O1 hob;have N2 := N.log (.slice a2 (Cn m x).lg.length c2);obtain ⟨w2, hw2⟩ := AB (w1.setCell (ja q 3) (.slice a2 (Cn m x).lg.length c2));have kw : ∀ k, k ≠ q → w2.heap[k]? = w1.heap[k]? := fun k hk => by rw [hw2]; exact AE hk
 have A0 := A0.keep (kw _ (by omega));have A1 := A1.keep (kw _ (by omega));have hv1 := hv1.carry (fun a e p => kw _ (by have := HV a e p; omega));have O2 := hownZ.keep (fun g e => kw g (hqo g e));have B4 : Bw w w2 := by rw [hw2]; exact B3.setCell (p := (ja q 3)) (by show _ ≤ q; omega) _
 have s4 : w1.heap.size ≤ w2.heap.size := by rw [hw2]; simp
 have n3 := N.c3;have nf := N.fr 3;go_upto_region 3 with fail
 rw [← hw2] at N2 ⊢;clear hw2 kw n3 nf N hownZ B3;have N3 : AV w2 q (Cn m x) (.slice a2 (Cn m x).lg.length c2) := N2.lg (m.lg ++ [x]);clear N2;cases hU : m.up
 focus
  have hNB : Hid (DR m x = false) := by unfold Hid DR; rw [hU]; rfl
  have hNR : Hid (AQ m x = m) := Hn hNB.out;obtain ⟨x0, x1, x2, x3, x4, x5, x6⟩ := id A0;rw [hU] at x0;go_wp2_with fail
  go_at_call 105
  clear x0 x1 x2 x3 x4 x5 x6;rw [← hU];replace hU : Hid _ := hU;refine (Ej m ad cap w2 hv1 (by omega) hn).mono ?_;rintro e w3 ⟨a3, c3, rfl, O3, k3⟩;have B5 := AA B4 k3;have A1 := A1.below k3 A1.lt;clear k3 B4;have B9 := EJ (q := w.heap.size + 1 + 1) m (.slice a3 m.lg.length c3) B5 (by omega);have O9 := (O3.base (base' := w.heap.size) (by omega)).keep (fun g e => Dd w3 (w.heap.size + 1 + 1) g m (.slice a3 m.lg.length c3) (by have := (O3.lt g e).1; omega))
 rotate_left;focus
  have hM : DR m x = Aq (Cn m x) := by unfold DR; rw [hU]; rfl
  replace hM : Hid _ := hM;obtain ⟨x0, x1, x2, x3, x4, x5, x6⟩ := id A0;rw [hU] at x0;have n0 := N3.all;go_wp2_with fail
  go_at_call 56
  clear n0 x0 x1 x2 x3 x4 x5 x6;refine (E9 (Cn m x) a2 c2 w2 O2.view.2 (by show (m.lg ++ [x]).length ≤ _; simp; omega)).mono ?_;rintro e w3 ⟨rfl, k3⟩;have B5 := AA B4 k3;have A0 := A0.below k3 A0.lt;have A1 := A1.below k3 A1.lt;have hv1 := hv1.below k3 (hv1.lt Aa (by omega));have O2 := O2.later k3;have N3 := N3.below k3 N3.lt;have s5 := k3.size;clear k3 B4;replace hU : Hid _ := hU;cases hO : Aq (Cn m x)
  focus
   have hNB : Hid (DR m x = false) := by unfold Hid; rw [hM.out, hO]
   have hNR : Hid (AQ m x = m) := Hn hNB.out;have x0 := A0.all;clear hO;go_wp2_with fail
   go_at_call 105
   clear x0;refine (Ej m ad cap w3 hv1 (by omega) hn).mono ?_;rintro e w4 ⟨a3, c3, rfl, O3, k3⟩;have B6 := AA B5 k3;have A1 := A1.below k3 A1.lt;clear k3 B5;have B9 := EJ (q := w.heap.size + 1 + 1) m (.slice a3 m.lg.length c3) B6 (by omega);have O9 := (O3.base (base' := w.heap.size) (by omega)).keep (fun g e => Dd w4 (w.heap.size + 1 + 1) g m (.slice a3 m.lg.length c3) (by have := (O3.lt g e).1; omega))
  rotate_left
  ·
   have hNB : Hid (DR m x = true) := by unfold Hid; rw [hM.out, hO]
   have hNR : Hid (AQ m x = (Cn m x)) := by unfold Hid AQ; rw [if_pos hNB.out]
   clear hO;replace N3 := N3.all;have B9 := EJ (q := w.heap.size + 1 + 1) (Cn m x) (.slice a2 (Cn m x).lg.length c2) B5 (by omega);have O9 := (O2.base (base' := w.heap.size) (by omega)).keep (fun g e => Dd w3 (w.heap.size + 1 + 1) g (Cn m x) (.slice a2 (Cn m x).lg.length c2) (by have := (O2.lt g e).1; omega));obtain ⟨z0, z1, z2, z3, z4, z5, z6, zf⟩ := A1;have g0 := zf 0;have g1 := zf 1;have g2 := zf 2;have g3 := zf 3;have g4 := zf 4;have g5 := zf 5;have g6 := zf 6;clear zf;go_wp2
   refine bodyPost_ret (v := .tuple #[.agg #[.bool (Cn m x).up, ji (Cn m x).li, ji (Cn m x).ep, .slice a2 (Cn m x).lg.length c2, ji (Cn m x).sd, ji (Cn m x).ac, ji (Cn m x).al], .bool true]) (by simp [results, results196, go_sem, *]) rfl ⟨a2, c2, by rw [hNR.out, hNB.out], by rw [hNR.out]; exact O9, B9⟩
 rotate_left;all_goals
  obtain ⟨z0, z1, z2, z3, z4, z5, z6, zf⟩ := A1;have g0 := zf 0;have g1 := zf 1;have g2 := zf 2;have g3 := zf 3;have g4 := zf 4;have g5 := zf 5;have g6 := zf 6;clear zf;go_wp2
  refine bodyPost_ret (v := .tuple #[.agg (mc m a3 c3), .bool false]) (by simp [results, results196, go_sem, *]) rfl ⟨a3, c3, by rw [hNR.out, hNB.out], by rw [hNR.out]; exact O9, B9⟩
end Go.Proofs.YthgcbihhdbpbdaaGreat
