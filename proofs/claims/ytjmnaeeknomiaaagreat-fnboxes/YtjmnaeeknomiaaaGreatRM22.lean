import Derived.Test.YtjmnaeeknomiaaaGreatRM11
namespace Go.Proofs.YtjmnaeeknomiaaaGreat
open Go.ChangeShapes Go.WideShapes Go.ChangeAt Go.RowKit
open Go.ChangeMaps (open_string shut_string)
set_option linter.unusedVariables false
set_option maxRecDepth 100000
set_option maxHeartbeats 32000000
set_option linter.unusedSimpArgs false
open Go.Proofs.Tryz
attribute [local go_sem] ji ja mc ic
theorem AH.oneK (w : World) (t : TypeId) (x : Ik) : AH AO (w.alloc (Obj.cells #[ji x.k, ji x.q, ji x.r, ji x.c, ji x.b, ji x.p, ji x.h, .bool x.up] t)) (some (ja w.heap.size 0)) [x] := by
 intro _;refine ⟨w.heap.size, 0, rfl, fun j v hv => ?_⟩;simp only [Aa, AO, List.append_nil] at hv;have hj : j < 8 := (List.getElem?_eq_some_iff.1 hv).1;rcases (by omega : j = 0 ∨ j = 1 ∨ j = 2 ∨ j = 3 ∨ j = 4 ∨ j = 5 ∨ j = 6 ∨ j = 7) with rfl | rfl | rfl | rfl | rfl | rfl | rfl | rfl <;> (cases hv; simp [go_sem])
theorem Ga (m : Mi) (x : Ik) (ad : Option Addr) (cap : Nat) (w : World) (hv : AH AO w ad m.lg) (hl : m.lg.length ≤ 1048576) (hn : ad = none → cap = 0) :
  Calls prog 196 #[.agg #[.bool m.up, ji m.li, ji m.ep, .slice ad m.lg.length cap, ji m.sd, ji m.ac, ji m.al], .agg #[ji x.k, ji x.q, ji x.r, ji x.c, ji x.b, ji x.p, ji x.h, .bool x.up]] w fun e w' => ∃ a c, e = .returned (.tuple #[.agg #[.bool (AM m x).up, ji (AM m x).li, ji (AM m x).ep, .slice a (AM m x).lg.length c, ji (AM m x).sd, ji (AM m x).ac, ji (AM m x).al], .bool (DB m x)]) ∧ AB AO 8 64 w.heap.size w' (.slice a (AM m x).lg.length c) (AM m x).lg ∧ Bw w w' := by
 have hB := hv.lt AT (by omega);obtain ⟨y, hy⟩ := AC (((w.alloc (Obj.cells (mc m ad cap) 52)).alloc (Obj.cells (ic x) 64)).alloc (Obj.cells #[.bool false, ji 0, ji 0, .slice none 0 0, ji 0, ji 0, ji 0] 52));have B0 : Bw w y := by rw [hy]; exact (((Below.refl _ _).alloc (Nat.le_refl _) _).alloc (by simp) _).alloc (by simp; omega) _
 have A0 : Ac y w.heap.size m (.slice ad m.lg.length cap) := by rw [hy]; constructor <;> simp [go_sem]
 have X0 : BD y (w.heap.size + 1) x := by rw [hy]; constructor <;> simp [go_sem]
 have A1 : AQ y (w.heap.size + 1 + 1) ⟨false, 0, 0, [], 0, 0, 0⟩ (.slice none 0 0) := by rw [hy]; constructor <;> simp [go_sem]
 have S0 := A1.lt;have hv1 := hv.below B0 hB;clear hv hB;obtain ⟨i1, hj, hy0, hy1, hy2⟩ := info_parts Ed;have HV : ∀ a, ad = some a → 0 < m.lg.length → a.block < y.heap.size := hv1.lt AT (by omega);go_enter func196, ntmps196
 have x0 := A0.all;go_wp2_with fail
 go_at_call 105
 rw [← hy];clear x0 hy;refine (EX m ad cap y hv1 (by omega) hn).mono ?_;rintro e u1 ⟨a1, c1, rfl, O1, k1⟩;have B1 := AE B0 k1;have A0 := A0.below k1 A0.lt;have X0 := X0.below k1 X0.lt;have A1 := A1.below k1 A1.lt;have hv1 := hv1.below k1 (hv1.lt AT (by omega));have s1 := k1.size;have lo1 := O1.lt;clear k1 B0;obtain ⟨u2, hu2, k2⟩ := AI u1 (Obj.cells (mc m a1 c1) 52);have N : AQ u2 u1.heap.size m (.slice a1 m.lg.length c1) := by rw [hu2]; exact AQ.new u1 _ _ _
 have B2 := AE B1 k2;have A0 := A0.below k2 A0.lt;have X0 := X0.below k2 X0.lt;have A1 := A1.below k2 A1.lt;have hv1 := hv1.below k2 (hv1.lt AT (by omega));have O1 := O1.later k2;have s2 := N.lt;have s2' := k2.size;obtain ⟨q, hq⟩ := AC u1.heap.size;go_upto_region 2 with fail
 rw [← hu2];clear hu2 k2 B1;rw [← hq] at N s2 lo1 s1 s2' ⊢;clear hq;have V1 := AH.oneK u2 64 x;have kx : Bw u2 (u2.alloc (Obj.cells (ic x) 64)) := Ae _;have O4 := O1.later kx;have N4 := N.below kx N.lt;have X4 := X0.below kx X0.lt;obtain ⟨n0, n1, n2, n3, n4, n5, n6, nf⟩ := id N4;obtain ⟨e0, e1, e2, e3, e4, e5, e6, e7⟩ := id X0;have p0 := N.all;go_wp2_with (first | (at_builtin; refine DT AT ER rfl _ _ 31 rfl y.heap.size 64 i1 (.agg #[ji 0, ji 0, ji 0, ji 0, ji 0, ji 0, ji 0, .bool false]) 64 underlying31 hj hy0 hy1 hy2 rfl (by decide) (by decide) (.slice a1 m.lg.length c1) m.lg rfl O4 (some (ja u2.heap.size 0)) 1 [x] rfl (fun e => by cases e) V1 ?z0 ?z1 ?_) | go_in)
 case z0 => simp; omega
 case z1 => first | omega | (simp; omega)
 intro vZ w1 hownZ hgrowZ hob;have hqo : ∀ g, vZ.ownBlock = some g → g ≠ q := fun g e => by
  rcases hob with h | h
  ·
   rw [h] at e; have := lo1 g e; omega
  rw [h] at e; have e2 := Option.some.inj e; have := kx.size; omega
 have bZ : Below y.heap.size u2 w1 := (kx.mono (by omega)).grown hgrowZ (by have := kx.size; omega) (fun j e => (O4.lt j e).1);have bq : ∀ k, k < u2.heap.size → (∀ g, (Value.slice a1 m.lg.length c1).ownBlock = some g → k ≠ g) → w1.heap[k]? = u2.heap[k]? := fun k hk he => (hgrowZ.block k (Nat.lt_of_lt_of_le hk kx.size) (fun e => he k e.symm rfl)).trans (kx.block k hk)
 replace hownZ : AB AO 8 64 y.heap.size w1 vZ (CV m x).lg := hownZ;obtain ⟨a2, c2, rfl⟩ := hownZ.open_;clear p0 n0 n1 n2 n3 n4 n5 n6 nf e0 e1 e2 e3 e4 e5 e6 e7 N4 X4 V1 O4 hgrowZ;have N := N.keep (bq q N.lt (fun g e => by have := lo1 g e; omega));have A0 := A0.keep (bq _ A0.lt (fun g e => by have := lo1 g e; omega));have A1 := A1.keep (bq _ A1.lt (fun g e => by have := lo1 g e; omega));have hv1 := hv1.carry (fun a e p => bZ.block _ (HV a e p));have s3 := bZ.size;have B3 := B2.trans (bZ.mono (by omega));have lo2 := hownZ.lt;clear bq kx bZ B2 O1 hob;have N2 := N.log (.slice a2 (CV m x).lg.length c2);obtain ⟨w2, hw2⟩ := AC (w1.setCell (ja q 3) (.slice a2 (CV m x).lg.length c2));have kw : ∀ k, k ≠ q → w2.heap[k]? = w1.heap[k]? := fun k hk => by rw [hw2]; exact AF hk
 have A0 := A0.keep (kw _ (by omega));have A1 := A1.keep (kw _ (by omega));have hv1 := hv1.carry (fun a e p => kw _ (by have := HV a e p; omega));have O2 := hownZ.keep (fun g e => kw g (hqo g e));have B4 : Bw w w2 := by rw [hw2]; exact B3.setCell (p := (ja q 3)) (by show _ ≤ q; omega) _
 have s4 : w1.heap.size ≤ w2.heap.size := by rw [hw2]; simp
 have n3 := N.c3;have nf := N.fr 3;go_upto_region 3 with fail
 rw [← hw2] at N2 ⊢;clear hw2 kw n3 nf N hownZ B3;have N3 : AQ w2 q (CV m x) (.slice a2 (CV m x).lg.length c2) := N2.lg (m.lg ++ [x]);clear N2;cases hU : m.up
 focus
  have hNB : Hid (DB m x = false) := by unfold Hid DB; rw [hU]; rfl
  have hNR : Hid (AM m x = m) := HF hNB.out;obtain ⟨x0, x1, x2, x3, x4, x5, x6⟩ := id A0;rw [hU] at x0;go_wp2_with fail
  go_at_call 105
  clear x0 x1 x2 x3 x4 x5 x6;rw [← hU];replace hU : Hid _ := hU;refine (EX m ad cap w2 hv1 (by omega) hn).mono ?_;rintro e w3 ⟨a3, c3, rfl, O3, k3⟩;have B5 := AE B4 k3;have A1 := A1.below k3 A1.lt;clear k3 B4;have B9 := Dq (q := w.heap.size + 1 + 1) m (.slice a3 m.lg.length c3) B5 (by omega);have O9 := (O3.base (base' := w.heap.size) (by omega)).keep (fun g e => DO w3 (w.heap.size + 1 + 1) g m (.slice a3 m.lg.length c3) (by have := (O3.lt g e).1; omega))
 rotate_left;focus
  have hM : DB m x = Au (CV m x) := by unfold DB; rw [hU]; rfl
  replace hM : Hid _ := hM;obtain ⟨x0, x1, x2, x3, x4, x5, x6⟩ := id A0;rw [hU] at x0;have n0 := N3.all;go_wp2_with fail
  go_at_call 56
  clear n0 x0 x1 x2 x3 x4 x5 x6;refine (Eu (CV m x) a2 c2 w2 O2.view.2 (by show (m.lg ++ [x]).length ≤ _; simp; omega)).mono ?_;rintro e w3 ⟨rfl, k3⟩;have B5 := AE B4 k3;have A0 := A0.below k3 A0.lt;have A1 := A1.below k3 A1.lt;have hv1 := hv1.below k3 (hv1.lt AT (by omega));have O2 := O2.later k3;have N3 := N3.below k3 N3.lt;have s5 := k3.size;clear k3 B4;replace hU : Hid _ := hU;cases hO : Au (CV m x)
  focus
   have hNB : Hid (DB m x = false) := by unfold Hid; rw [hM.out, hO]
   have hNR : Hid (AM m x = m) := HF hNB.out;have x0 := A0.all;clear hO;go_wp2_with fail
   go_at_call 105
   clear x0;refine (EX m ad cap w3 hv1 (by omega) hn).mono ?_;rintro e w4 ⟨a3, c3, rfl, O3, k3⟩;have B6 := AE B5 k3;have A1 := A1.below k3 A1.lt;clear k3 B5;have B9 := Dq (q := w.heap.size + 1 + 1) m (.slice a3 m.lg.length c3) B6 (by omega);have O9 := (O3.base (base' := w.heap.size) (by omega)).keep (fun g e => DO w4 (w.heap.size + 1 + 1) g m (.slice a3 m.lg.length c3) (by have := (O3.lt g e).1; omega))
  rotate_left
  ·
   have hNB : Hid (DB m x = true) := by unfold Hid; rw [hM.out, hO]
   have hNR : Hid (AM m x = (CV m x)) := by unfold Hid AM; rw [if_pos hNB.out]
   clear hO;replace N3 := N3.all;have B9 := Dq (q := w.heap.size + 1 + 1) (CV m x) (.slice a2 (CV m x).lg.length c2) B5 (by omega);have O9 := (O2.base (base' := w.heap.size) (by omega)).keep (fun g e => DO w3 (w.heap.size + 1 + 1) g (CV m x) (.slice a2 (CV m x).lg.length c2) (by have := (O2.lt g e).1; omega));obtain ⟨z0, z1, z2, z3, z4, z5, z6, zf⟩ := A1;have g0 := zf 0;have g1 := zf 1;have g2 := zf 2;have g3 := zf 3;have g4 := zf 4;have g5 := zf 5;have g6 := zf 6;clear zf;go_wp2
   refine bodyPost_ret (v := .tuple #[.agg #[.bool (CV m x).up, ji (CV m x).li, ji (CV m x).ep, .slice a2 (CV m x).lg.length c2, ji (CV m x).sd, ji (CV m x).ac, ji (CV m x).al], .bool true]) (by simp [results, results196, go_sem, *]) rfl ⟨a2, c2, by rw [hNR.out, hNB.out], by rw [hNR.out]; exact O9, B9⟩
 rotate_left;all_goals
  obtain ⟨z0, z1, z2, z3, z4, z5, z6, zf⟩ := A1;have g0 := zf 0;have g1 := zf 1;have g2 := zf 2;have g3 := zf 3;have g4 := zf 4;have g5 := zf 5;have g6 := zf 6;clear zf;go_wp2
  refine bodyPost_ret (v := .tuple #[.agg (mc m a3 c3), .bool false]) (by simp [results, results196, go_sem, *]) rfl ⟨a3, c3, by rw [hNR.out, hNB.out], by rw [hNR.out]; exact O9, B9⟩
theorem JV (m : Mi) (ad : Option Addr) (cap : Nat) (p : Int) (w : World) (hm : m.lg.length ≤ maxLen) :
  Calls prog 197 #[.agg #[.bool m.up, ji m.li, ji m.ep, .slice ad m.lg.length cap, ji m.sd, ji m.ac, ji m.al], ji p] w fun e w' => e = .returned (.bool (DY m p)) ∧ Bw w w' := by
 obtain ⟨up, li, ep, L, sd, ac, al⟩ := m;dsimp only
 dsimp only at hm;obtain ⟨R, hR⟩ := AC (DY ⟨up, li, ep, L, sd, ac, al⟩ p);rw [← hR];replace hR : Hid _ := hR;unfold maxLen at hm;have B0 := Ae (w := w) (Obj.cells #[.bool up, ji li, ji ep, .slice ad L.length cap, ji sd, ji ac, ji al] 52);cases up
 focus
  have hN : Hid (R = false) := by unfold Hid; rw [hR.out]; unfold DY; clear hR B0; first | (simp [*]; done) | (simp [*] at *; done) | (simp_all; done) | omega | grind
 rotate_left;focus
  by_cases q1 : 0 < ep
  focus
   have dq1 : decide (0 < ep) = true := decide_eq_true q1;by_cases q2 : sd < (L.length : Int)
   focus
    have dq2 : decide (sd < (L.length : Int)) = true := decide_eq_true q2;by_cases q3 : p = 0
    focus
     have dq3 : (p == 0) = true := by simpa using q3
     replace q3 : Hid _ := q3;have hN : Hid (R = true) := by unfold Hid; rw [hR.out]; unfold DY; clear hR B0; have eq3 := q3.out; first | (simp [*]; done) | (simp [*] at *; done) | (simp_all; done) | omega | grind
    rotate_left;focus
     have dq3 : (p == 0) = false := by simpa using q3
     replace q3 : Hid _ := q3;by_cases q4 : al = p
     focus
      have dq4 : (al == p) = true := by simpa using q4
      replace q4 : Hid _ := q4;by_cases q5 : sd < ac
      focus
       have dq5 : decide (sd < ac) = true := decide_eq_true q5;have hN : Hid (R = true) := by unfold Hid; rw [hR.out]; unfold DY; clear hR B0; have eq3 := q3.out; have eq4 := q4.out; first | (simp [*]; done) | (simp [*] at *; done) | (simp_all; done) | omega | grind
      rotate_left;focus
       have dq5 : decide (sd < ac) = false := decide_eq_false q5;have hN : Hid (R = false) := by unfold Hid; rw [hR.out]; unfold DY; clear hR B0; have eq3 := q3.out; have eq4 := q4.out; first | (simp [*]; done) | (simp [*] at *; done) | (simp_all; done) | omega | grind
      rotate_left
     rotate_left 2;focus
      have dq4 : (al == p) = false := by simpa using q4
      replace q4 : Hid _ := q4;have hN : Hid (R = false) := by unfold Hid; rw [hR.out]; unfold DY; clear hR B0; have eq3 := q3.out; have eq4 := q4.out; first | (simp [*]; done) | (simp [*] at *; done) | (simp_all; done) | omega | grind
     rotate_left
    rotate_left 3
   rotate_left 4;focus
    have dq2 : decide (sd < (L.length : Int)) = false := decide_eq_false q2;have hN : Hid (R = false) := by unfold Hid; rw [hR.out]; unfold DY; clear hR B0; first | (simp [*]; done) | (simp [*] at *; done) | (simp_all; done) | omega | grind
   rotate_left
  rotate_left 5;focus
   have dq1 : decide (0 < ep) = false := decide_eq_false q1;have hN : Hid (R = false) := by unfold Hid; rw [hR.out]; unfold DY; clear hR B0; first | (simp [*]; done) | (simp [*] at *; done) | (simp_all; done) | omega | grind
  rotate_left
 rotate_left 6;all_goals
  clear hR;go_enter func197, ntmps197
  go_wp2
  go_ret
  exact ⟨by rw [hN.out]; rfl, B0⟩
attribute [local go_sem] pc
theorem Iy (x : Pt) (w : World) (hok : Ax x = true) : Calls prog 125 #[.agg #[.bool x.up, .bool x.has, ji x.r, ji x.c, ji x.b, ji x.p, ji x.h, ji x.l, ji x.ro, ji x.wa, .bool x.op]] w fun e w' => e = .returned (.agg #[.bool (CK x).up, .bool (CK x).has, ji (CK x).r, ji (CK x).c, ji (CK x).b, ji (CK x).p, ji (CK x).h, ji (CK x).l, ji (CK x).ro, ji (CK x).wa, .bool (CK x).op]) ∧ Bw w w' := by
 obtain ⟨y, hy⟩ := AC ((w.alloc (Obj.cells (pc x) 70)).alloc (Obj.cells #[.bool false, .bool false, ji 0, ji 0, ji 0, ji 0, ji 0, ji 0, ji 0, ji 0, .bool false] 70));have B0 : Bw w y := by rw [hy]; exact ((Below.refl _ _).alloc (Nat.le_refl _) _).alloc (by simp) _
 have P0 : An y w.heap.size x := by rw [hy]; refine ⟨?_, fun i => ?_⟩; constructor <;> simp [go_sem]; simp [go_sem]
 have R0 : An y (w.heap.size + 1) Pt.nil := by rw [hy]; refine ⟨?_, fun i => ?_⟩; constructor <;> simp [go_sem, Pt.nil]; simp [go_sem]
 have S0 := R0.lt;obtain ⟨t, ht⟩ : ∃ t, CK x = t := ⟨_, rfl⟩;rw [ht];obtain ⟨z, hz⟩ : ∃ z, BQ x = z := ⟨_, rfl⟩;have hti : Hid (t = if (z.ro = 1 ∨ z.ro = 2) ∧ 0 < z.wa then { z with wa := z.wa - 1, op := (z.wa - 1 == 0) } else z) := by unfold Hid; rw [← ht, Ia hok, hz]
 have hw4 : z.wa ≤ 4 ∧ 0 ≤ z.wa := by
  have := (G8.1 hok).2.2.2.1;have e := (Gq x).2.2.1;rw [hz] at e;omega
 have htr : Hid (t = { z with wa := EB z, op := BG z.ro (EB z) }) := by unfold Hid; rw [← ht, ← hz]; rfl
 obtain ⟨hw4, hw0⟩ := hw4;replace hz : Hid _ := hz;clear ht hok;go_enter func125, ntmps125
 go_wp2_with fail
 go_at_call 151
 rw [← hy];clear hy;refine (KY x y).mono ?_;rintro e w1 ⟨rfl, k1⟩;rw [hz.out];have B1 := AE B0 k1;have P1 := P0.below k1 (by omega);have R1 := R0.below k1 (by omega);have S1 := R1.lt;clear hz k1 P0 R0 B0 S0;obtain ⟨y2, hy2⟩ := AC (((((((((((w1.setCell (ja w.heap.size 0) (.bool z.up)).setCell (ja w.heap.size 1) (.bool z.has)).setCell (ja w.heap.size 2) (ji z.r)).setCell (ja w.heap.size 3) (ji z.c)).setCell (ja w.heap.size 4) (ji z.b)).setCell (ja w.heap.size 5) (ji z.p)).setCell (ja w.heap.size 6) (ji z.h)).setCell (ja w.heap.size 7) (ji z.l)).setCell (ja w.heap.size 8) (ji z.ro)).setCell (ja w.heap.size 9) (ji z.wa)).setCell (ja w.heap.size 10) (.bool z.op));have P2 : An y2 w.heap.size z := by rw [hy2]; exact (((((((((((P1.set0 z.up).set1 z.has).set2 z.r).set3 z.c).set4 z.b).set5 z.p).set6 z.h).set7 z.l).set8 z.ro).set9 z.wa).set10 z.op)
 have R2 : An y2 (w.heap.size + 1) Pt.nil := by rw [hy2]; exact (((((((((((R1.other (by omega)).other (by omega)).other (by omega)).other (by omega)).other (by omega)).other (by omega)).other (by omega)).other (by omega)).other (by omega)).other (by omega)).other (by omega))
 have B2 : Bw w y2 := by rw [hy2]; exact (((((((((((B1.setCell (p := (ja w.heap.size 0)) (by show _ ≤ w.heap.size; omega) (.bool z.up)).setCell (p := (ja w.heap.size 1)) (by show _ ≤ w.heap.size; omega) (.bool z.has)).setCell (p := (ja w.heap.size 2)) (by show _ ≤ w.heap.size; omega) (ji z.r)).setCell (p := (ja w.heap.size 3)) (by show _ ≤ w.heap.size; omega) (ji z.c)).setCell (p := (ja w.heap.size 4)) (by show _ ≤ w.heap.size; omega) (ji z.b)).setCell (p := (ja w.heap.size 5)) (by show _ ≤ w.heap.size; omega) (ji z.p)).setCell (p := (ja w.heap.size 6)) (by show _ ≤ w.heap.size; omega) (ji z.h)).setCell (p := (ja w.heap.size 7)) (by show _ ≤ w.heap.size; omega) (ji z.l)).setCell (p := (ja w.heap.size 8)) (by show _ ≤ w.heap.size; omega) (ji z.ro)).setCell (p := (ja w.heap.size 9)) (by show _ ≤ w.heap.size; omega) (ji z.wa)).setCell (p := (ja w.heap.size 10)) (by show _ ≤ w.heap.size; omega) (.bool z.op))
 have P1' := P1;obtain ⟨⟨p0, p1, p2, p3, p4, p5, p6, p7, p8, p9, p10⟩, pf⟩ := P1;go_upto_region 2 with fail
 rw [← hy2];clear hy2 p0 p1 p2 p3 p4 p5 p6 p7 p8 p9 p10 pf P1' R1 B1;obtain ⟨⟨p0, p1, p2, p3, p4, p5, p6, p7, p8, p9, p10⟩, pf⟩ := P2;have P2 : An y2 w.heap.size z := ⟨⟨p0, p1, p2, p3, p4, p5, p6, p7, p8, p9, p10⟩, pf⟩;by_cases h1 : z.ro = 1
 ·
  have d1 : (z.ro == 1) = true := by simpa using h1
  by_cases h0 : 0 < z.wa
  focus
   have d0 : decide (0 < z.wa) = true := decide_eq_true h0;have hcc : Hid ((z.ro = 1 ∨ z.ro = 2) ∧ 0 < z.wa) := ⟨.inl h1, h0⟩;replace h1 : Hid _ := h1;have P3 := P2.set9 (z.wa - 1);have B3 := B2.setCell (p := (ja w.heap.size 9)) (Nat.le_refl w.heap.size) (ji (z.wa - 1));have R3 := R2.other (q' := w.heap.size) (i := 9) (v := ji (z.wa - 1)) (by omega);obtain ⟨y3, hy3⟩ := AC (y2.setCell (ja w.heap.size 9) (ji (z.wa - 1)));rw [← hy3] at P3 B3 R3;go_upto_region 4 with fail
   rw [← hy3];clear hy3 p0 p1 p2 p3 p4 p5 p6 p7 p8 p9 p10 pf P2 B2 R2;obtain ⟨v, hv⟩ := AC ({ z with wa := z.wa - 1 } : Pt);have P3 : An y3 w.heap.size v := by rw [hv]; exact P3
   replace hv : Hid _ := hv;obtain ⟨⟨p0, p1, p2, p3, p4, p5, p6, p7, p8, p9, p10⟩, pf⟩ := P3;go_wp2_with fail
   go_at_call 152
   refine (EW v y3).mono ?_;rintro e w4 ⟨rfl, k4⟩;have B4 := AE B3 k4;have S4 : w.heap.size + 1 < y3.heap.size := R3.lt;have R4 := R3.below k4 S4;obtain ⟨o, ho⟩ : ∃ o : Pt, o = { v with op := BG v.ro v.wa } := ⟨_, rfl⟩;have ho0 : Value.agg (pc o) = Value.agg #[.bool v.up, .bool v.has, ji v.r, ji v.c, ji v.b, ji v.p, ji v.h, ji v.l, ji v.ro, ji v.wa, .bool (BG v.ro v.wa)] := by rw [ho]
   rw [← ho0];have hT : Hid (t = o) := by unfold Hid; rw [htr.out, ho]; rw [hv.out]; unfold EB; rw [if_pos hcc.out]
  rotate_left;focus
   have d0 : decide (0 < z.wa) = false := decide_eq_false h0;have hcc : Hid (¬ ((z.ro = 1 ∨ z.ro = 2) ∧ 0 < z.wa)) := fun e => h0 e.2
   replace h1 : Hid _ := h1;replace h0 : Hid _ := h0;go_upto_region 4 with fail
   go_wp2_with fail
   go_at_call 152
   refine (EW z y2).mono ?_;rintro e w4 ⟨rfl, k4⟩;have B4 := AE B2 k4;have S4 : w.heap.size + 1 < y2.heap.size := R2.lt;have R4 := R2.below k4 S4;obtain ⟨o, ho⟩ : ∃ o : Pt, o = { z with op := BG z.ro z.wa } := ⟨_, rfl⟩;have ho0 : Value.agg (pc o) = Value.agg #[.bool z.up, .bool z.has, ji z.r, ji z.c, ji z.b, ji z.p, ji z.h, ji z.l, ji z.ro, ji z.wa, .bool (BG z.ro z.wa)] := by rw [ho]
   rw [← ho0];have hT : Hid (t = o) := by unfold Hid; rw [htr.out, ho]; unfold EB; rw [if_neg hcc.out]
  rotate_left;all_goals
   clear ho ho0 k4 p0 p1 p2 p3 p4 p5 p6 p7 p8 p9 p10 pf;have RZ := (((((((((((R4.set0 o.up).set1 o.has).set2 o.r).set3 o.c).set4 o.b).set5 o.p).set6 o.h).set7 o.l).set8 o.ro).set9 o.wa).set10 o.op);have BZ := (((((((((((B4.setCell (p := ⟨w.heap.size + 1, 0, none⟩) (by show _ ≤ w.heap.size + 1; omega) (.bool o.up)).setCell (p := ⟨w.heap.size + 1, 1, none⟩) (by show _ ≤ w.heap.size + 1; omega) (.bool o.has)).setCell (p := ⟨w.heap.size + 1, 2, none⟩) (by show _ ≤ w.heap.size + 1; omega) (ji o.r)).setCell (p := ⟨w.heap.size + 1, 3, none⟩) (by show _ ≤ w.heap.size + 1; omega) (ji o.c)).setCell (p := ⟨w.heap.size + 1, 4, none⟩) (by show _ ≤ w.heap.size + 1; omega) (ji o.b)).setCell (p := ⟨w.heap.size + 1, 5, none⟩) (by show _ ≤ w.heap.size + 1; omega) (ji o.p)).setCell (p := ⟨w.heap.size + 1, 6, none⟩) (by show _ ≤ w.heap.size + 1; omega) (ji o.h)).setCell (p := ⟨w.heap.size + 1, 7, none⟩) (by show _ ≤ w.heap.size + 1; omega) (ji o.l)).setCell (p := ⟨w.heap.size + 1, 8, none⟩) (by show _ ≤ w.heap.size + 1; omega) (ji o.ro)).setCell (p := ⟨w.heap.size + 1, 9, none⟩) (by show _ ≤ w.heap.size + 1; omega) (ji o.wa)).setCell (p := ⟨w.heap.size + 1, 10, none⟩) (by show _ ≤ w.heap.size + 1; omega) (.bool o.op));obtain ⟨⟨z0, z1, z2, z3, z4, z5, z6, z7, z8, z9, z10⟩, _⟩ := RZ;obtain ⟨⟨r0, r1, r2, r3, r4, r5, r6, r7, r8, r9, r10⟩, rf⟩ := R4;go_wp2
   refine bodyPost_ret (v := .agg (pc o)) (by simp [results, results125, go_sem, *]) rfl ⟨by rw [hT.out], BZ⟩
 have d1 : (z.ro == 1) = false := by simpa using h1
 by_cases h2 : z.ro = 2
 ·
  have d2 : (z.ro == 2) = true := by simpa using h2
  by_cases h0 : 0 < z.wa
  focus
   have d0 : decide (0 < z.wa) = true := decide_eq_true h0;have hcc : Hid ((z.ro = 1 ∨ z.ro = 2) ∧ 0 < z.wa) := ⟨.inr h2, h0⟩;replace h2 : Hid _ := h2;replace h1 : Hid _ := h1;have P3 := P2.set9 (z.wa - 1);have B3 := B2.setCell (p := (ja w.heap.size 9)) (Nat.le_refl w.heap.size) (ji (z.wa - 1));have R3 := R2.other (q' := w.heap.size) (i := 9) (v := ji (z.wa - 1)) (by omega);obtain ⟨y3, hy3⟩ := AC (y2.setCell (ja w.heap.size 9) (ji (z.wa - 1)));rw [← hy3] at P3 B3 R3;go_upto_region 4 with fail
   rw [← hy3];clear hy3 p0 p1 p2 p3 p4 p5 p6 p7 p8 p9 p10 pf P2 B2 R2;obtain ⟨v, hv⟩ := AC ({ z with wa := z.wa - 1 } : Pt);have P3 : An y3 w.heap.size v := by rw [hv]; exact P3
   replace hv : Hid _ := hv;obtain ⟨⟨p0, p1, p2, p3, p4, p5, p6, p7, p8, p9, p10⟩, pf⟩ := P3;go_wp2_with fail
   go_at_call 152
   refine (EW v y3).mono ?_;rintro e w4 ⟨rfl, k4⟩;have B4 := AE B3 k4;have S4 : w.heap.size + 1 < y3.heap.size := R3.lt;have R4 := R3.below k4 S4;obtain ⟨o, ho⟩ : ∃ o : Pt, o = { v with op := BG v.ro v.wa } := ⟨_, rfl⟩;have ho0 : Value.agg (pc o) = Value.agg #[.bool v.up, .bool v.has, ji v.r, ji v.c, ji v.b, ji v.p, ji v.h, ji v.l, ji v.ro, ji v.wa, .bool (BG v.ro v.wa)] := by rw [ho]
   rw [← ho0];have hT : Hid (t = o) := by unfold Hid; rw [htr.out, ho]; rw [hv.out]; unfold EB; rw [if_pos hcc.out]
  rotate_left;focus
   have d0 : decide (0 < z.wa) = false := decide_eq_false h0;have hcc : Hid (¬ ((z.ro = 1 ∨ z.ro = 2) ∧ 0 < z.wa)) := fun e => h0 e.2
   replace h2 : Hid _ := h2;replace h1 : Hid _ := h1;replace h0 : Hid _ := h0;go_upto_region 4 with fail
   go_wp2_with fail
   go_at_call 152
   refine (EW z y2).mono ?_;rintro e w4 ⟨rfl, k4⟩;have B4 := AE B2 k4;have S4 : w.heap.size + 1 < y2.heap.size := R2.lt;have R4 := R2.below k4 S4;obtain ⟨o, ho⟩ : ∃ o : Pt, o = { z with op := BG z.ro z.wa } := ⟨_, rfl⟩;have ho0 : Value.agg (pc o) = Value.agg #[.bool z.up, .bool z.has, ji z.r, ji z.c, ji z.b, ji z.p, ji z.h, ji z.l, ji z.ro, ji z.wa, .bool (BG z.ro z.wa)] := by rw [ho]
   rw [← ho0];have hT : Hid (t = o) := by unfold Hid; rw [htr.out, ho]; unfold EB; rw [if_neg hcc.out]
  rotate_left;all_goals
   clear ho ho0 k4 p0 p1 p2 p3 p4 p5 p6 p7 p8 p9 p10 pf;have RZ := (((((((((((R4.set0 o.up).set1 o.has).set2 o.r).set3 o.c).set4 o.b).set5 o.p).set6 o.h).set7 o.l).set8 o.ro).set9 o.wa).set10 o.op);have BZ := (((((((((((B4.setCell (p := ⟨w.heap.size + 1, 0, none⟩) (by show _ ≤ w.heap.size + 1; omega) (.bool o.up)).setCell (p := ⟨w.heap.size + 1, 1, none⟩) (by show _ ≤ w.heap.size + 1; omega) (.bool o.has)).setCell (p := ⟨w.heap.size + 1, 2, none⟩) (by show _ ≤ w.heap.size + 1; omega) (ji o.r)).setCell (p := ⟨w.heap.size + 1, 3, none⟩) (by show _ ≤ w.heap.size + 1; omega) (ji o.c)).setCell (p := ⟨w.heap.size + 1, 4, none⟩) (by show _ ≤ w.heap.size + 1; omega) (ji o.b)).setCell (p := ⟨w.heap.size + 1, 5, none⟩) (by show _ ≤ w.heap.size + 1; omega) (ji o.p)).setCell (p := ⟨w.heap.size + 1, 6, none⟩) (by show _ ≤ w.heap.size + 1; omega) (ji o.h)).setCell (p := ⟨w.heap.size + 1, 7, none⟩) (by show _ ≤ w.heap.size + 1; omega) (ji o.l)).setCell (p := ⟨w.heap.size + 1, 8, none⟩) (by show _ ≤ w.heap.size + 1; omega) (ji o.ro)).setCell (p := ⟨w.heap.size + 1, 9, none⟩) (by show _ ≤ w.heap.size + 1; omega) (ji o.wa)).setCell (p := ⟨w.heap.size + 1, 10, none⟩) (by show _ ≤ w.heap.size + 1; omega) (.bool o.op));obtain ⟨⟨z0, z1, z2, z3, z4, z5, z6, z7, z8, z9, z10⟩, _⟩ := RZ;obtain ⟨⟨r0, r1, r2, r3, r4, r5, r6, r7, r8, r9, r10⟩, rf⟩ := R4;go_wp2
   refine bodyPost_ret (v := .agg (pc o)) (by simp [results, results125, go_sem, *]) rfl ⟨by rw [hT.out], BZ⟩
 have d2 : (z.ro == 2) = false := by simpa using h2
 have hcc : Hid (¬ ((z.ro = 1 ∨ z.ro = 2) ∧ 0 < z.wa)) := fun e => by rcases e.1 with q | q; exact h1 q; exact h2 q
 replace h1 : Hid _ := h1;replace h2 : Hid _ := h2;go_upto_region 4 with fail
 go_wp2_with fail
 go_at_call 152
 refine (EW z y2).mono ?_;rintro e w4 ⟨rfl, k4⟩;have B4 := AE B2 k4;have S4 : w.heap.size + 1 < y2.heap.size := R2.lt;have R4 := R2.below k4 S4;obtain ⟨o, ho⟩ : ∃ o : Pt, o = { z with op := BG z.ro z.wa } := ⟨_, rfl⟩;have ho0 : Value.agg (pc o) = Value.agg #[.bool z.up, .bool z.has, ji z.r, ji z.c, ji z.b, ji z.p, ji z.h, ji z.l, ji z.ro, ji z.wa, .bool (BG z.ro z.wa)] := by rw [ho]
 rw [← ho0];have hT : Hid (t = o) := by unfold Hid; rw [htr.out, ho]; unfold EB; rw [if_neg hcc.out]
 clear ho ho0 k4 p0 p1 p2 p3 p4 p5 p6 p7 p8 p9 p10 pf;have RZ := (((((((((((R4.set0 o.up).set1 o.has).set2 o.r).set3 o.c).set4 o.b).set5 o.p).set6 o.h).set7 o.l).set8 o.ro).set9 o.wa).set10 o.op);have BZ := (((((((((((B4.setCell (p := ⟨w.heap.size + 1, 0, none⟩) (by show _ ≤ w.heap.size + 1; omega) (.bool o.up)).setCell (p := ⟨w.heap.size + 1, 1, none⟩) (by show _ ≤ w.heap.size + 1; omega) (.bool o.has)).setCell (p := ⟨w.heap.size + 1, 2, none⟩) (by show _ ≤ w.heap.size + 1; omega) (ji o.r)).setCell (p := ⟨w.heap.size + 1, 3, none⟩) (by show _ ≤ w.heap.size + 1; omega) (ji o.c)).setCell (p := ⟨w.heap.size + 1, 4, none⟩) (by show _ ≤ w.heap.size + 1; omega) (ji o.b)).setCell (p := ⟨w.heap.size + 1, 5, none⟩) (by show _ ≤ w.heap.size + 1; omega) (ji o.p)).setCell (p := ⟨w.heap.size + 1, 6, none⟩) (by show _ ≤ w.heap.size + 1; omega) (ji o.h)).setCell (p := ⟨w.heap.size + 1, 7, none⟩) (by show _ ≤ w.heap.size + 1; omega) (ji o.l)).setCell (p := ⟨w.heap.size + 1, 8, none⟩) (by show _ ≤ w.heap.size + 1; omega) (ji o.ro)).setCell (p := ⟨w.heap.size + 1, 9, none⟩) (by show _ ≤ w.heap.size + 1; omega) (ji o.wa)).setCell (p := ⟨w.heap.size + 1, 10, none⟩) (by show _ ≤ w.heap.size + 1; omega) (.bool o.op));obtain ⟨⟨z0, z1, z2, z3, z4, z5, z6, z7, z8, z9, z10⟩, _⟩ := RZ;obtain ⟨⟨r0, r1, r2, r3, r4, r5, r6, r7, r8, r9, r10⟩, rf⟩ := R4;go_wp2
 refine bodyPost_ret (v := .agg (pc o)) (by simp [results, results125, go_sem, *]) rfl ⟨by rw [hT.out], BZ⟩
end Go.Proofs.YtjmnaeeknomiaaaGreat
