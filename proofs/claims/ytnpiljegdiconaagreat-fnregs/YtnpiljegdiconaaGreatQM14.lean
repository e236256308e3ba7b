import Derived.Test.YtnpiljegdiconaaGreatQM17
namespace Go.Proofs.YtnpiljegdiconaaGreat
open Go.ChangeShapes Go.WideShapes Go.ChangeAt Go.RowKit
open Go.ChangeMaps (open_string shut_string)
set_option linter.unusedVariables false
set_option maxRecDepth 100000
structure WiAt (w : World) (q : Nat) (x : Wi) : Prop where
 c0 : w.cell? ⟨q, 0, none⟩ = some (.int .i64 x.fr)
 c1 : w.cell? ⟨q, 1, none⟩ = some (.bool x.ak)
 c2 : w.cell? ⟨q, 2, none⟩ = some (.int .i64 x.li)
 c3 : w.cell? ⟨q, 3, none⟩ = some (.int .i64 x.n)
 c4 : w.cell? ⟨q, 4, none⟩ = some (.int .i64 x.x.k)
 c5 : w.cell? ⟨q, 5, none⟩ = some (.int .i64 x.x.q)
 c6 : w.cell? ⟨q, 6, none⟩ = some (.int .i64 x.x.r)
 c7 : w.cell? ⟨q, 7, none⟩ = some (.int .i64 x.x.c)
 c8 : w.cell? ⟨q, 8, none⟩ = some (.int .i64 x.x.b)
 c9 : w.cell? ⟨q, 9, none⟩ = some (.int .i64 x.x.p)
 c10 : w.cell? ⟨q, 10, none⟩ = some (.int .i64 x.x.h)
 c11 : w.cell? ⟨q, 11, none⟩ = some (.bool x.x.up)
theorem WiAt.new (w : World) (t : TypeId) (x : Wi) : WiAt (w.alloc (Obj.cells #[.int .i64 x.fr, .bool x.ak, .int .i64 x.li, .int .i64 x.n, .int .i64 x.x.k, .int .i64 x.x.q, .int .i64 x.x.r, .int .i64 x.x.c, .int .i64 x.x.b, .int .i64 x.x.p, .int .i64 x.x.h, .bool x.x.up] t)) w.heap.size x := by
 refine ⟨?_, ?_, ?_, ?_, ?_, ?_, ?_, ?_, ?_, ?_, ?_, ?_⟩ <;> simp [go_sem]
theorem neqIn (x : Ik) (w : World) : (binOp .neq 105 (.agg #[.int .i64 x.k, .int .i64 x.q, .int .i64 x.r, .int .i64 x.c, .int .i64 x.b, .int .i64 x.p, .int .i64 x.h, .bool x.up]) (.agg #[.int .i64 0, .int .i64 0, .int .i64 0, .int .i64 0, .int .i64 0, .int .i64 0, .int .i64 0, .bool false])).run Tryz.prog w = .ok (.bool (!inNil x)) w := by
 have hE : (binOp .eql 105 (.agg #[.int .i64 x.k, .int .i64 x.q, .int .i64 x.r, .int .i64 x.c, .int .i64 x.b, .int .i64 x.p, .int .i64 x.h, .bool x.up]) (.agg #[.int .i64 0, .int .i64 0, .int .i64 0, .int .i64 0, .int .i64 0, .int .i64 0, .int .i64 0, .bool false])).run Tryz.prog w = .ok (.bool (inNil x)) w := by
  unfold inNil;go_simp
  all_goals ((repeat' split) <;> first | (simp_all; done) | grind)
 unfold inNil;go_simp
 all_goals ((repeat' split) <;> first | (simp_all; done) | grind)
set_option maxHeartbeats 4000000 in
theorem netS (x : BxD) (w : World) (hV : BxV w x) :
  Calls Tryz.prog 89 #[.agg #[.int .i64 x.id, .int .i64 x.po, .int .i64 x.rg.ep, .int .i64 x.rg.ow, .int .i64 x.rg.pa, .slice x.aT x.two.length x.cT, .slice x.aN x.net.length x.cN, .slice x.aG x.ga.length x.cG, .slice x.aL x.ln.length x.cL, .slice x.aS x.sd.length x.cS]] w fun e w' => e = .returned (.bool (x.net.all wiOk && decide (x.net.length ≤ 20))) ∧ Below w.heap.size w w' := by
 obtain ⟨R, hR⟩ := mk_ (x.net.all wiOk && decide (x.net.length ≤ 20));rw [← hR];replace hR : Hid _ := hR;obtain ⟨y, hy⟩ := mk_ (w.alloc (Obj.cells #[.int .i64 x.id, .int .i64 x.po, .int .i64 x.rg.ep, .int .i64 x.rg.ow, .int .i64 x.rg.pa, .slice x.aT x.two.length x.cT, .slice x.aN x.net.length x.cN, .slice x.aG x.ga.length x.cG, .slice x.aL x.ln.length x.cL, .slice x.aS x.sd.length x.cS] 48));have B0 : Below w.heap.size w y := by rw [hy]; exact below_new _
 have A : BxAt y w.heap.size x := by rw [hy]; exact BxAt.new w _ x
 have V := hV.later B0;have S0 := A.lt;have bn := V.bn;go_enter Tryz.func89, Tryz.ntmps89
 go_upto_region 1 with fail
 rw [← hy];clear hy hV;go_wp2
 go_loopw [3] (fun i wr => ∃ k : Nat, k ≤ x.net.length ∧ i = .int .i64 k ∧ (x.net.take k).all wiOk = true ∧ Below y.heap.size y wr) (fun i _ => x.net.length - (intOf i).toNat)
 case atStart => exact ⟨0, Nat.zero_le _, rfl, rfl, Below.refl _ _⟩
 case round =>
  obtain ⟨k, hk, rfl, T, K⟩ := hrel;replace T : Hid _ := T;have A2 := A.below K S0;have V2 := V.later K;obtain ⟨a0, a1, a2, a3, a4, a5, a6, a7, a8, a9⟩ := id A2;by_cases hlt : k < x.net.length
  ·
   obtain ⟨b, off, hat, _⟩ := V2.n (by omega);rw [hat] at a6;obtain ⟨v, hh⟩ : ∃ v, x.net.getD k Wi.nil = v := ⟨_, rfl⟩;have hck : WiAtO wr b (off + k * 12) v := by
    have ht := V2.n;rw [hat] at ht;rw [← hh];exact wiAtO_of (ht.at_ wiEnc_len Wi.nil hlt)
   have hT := all_take wiOk x.net Wi.nil hlt;rw [T.out, hh, Bool.true_and] at hT;have hNo : wiOk v = false → x.net.all wiOk = false := fun e => all_no wiOk x.net Wi.nil hlt (by rw [hh]; exact e)
   replace hT : Hid _ := hT;replace hh : Hid _ := hh;replace hat : Hid _ := hat;obtain ⟨c0, c1, c2, c3, c4, c5, c6, c7, c8, c9, c10, c11⟩ := hck;obtain ⟨u, hu⟩ := mk_ (wr.alloc (Obj.cells #[.int .i64 v.fr, .bool v.ak, .int .i64 v.li, .int .i64 v.n, .int .i64 v.x.k, .int .i64 v.x.q, .int .i64 v.x.r, .int .i64 v.x.c, .int .i64 v.x.b, .int .i64 v.x.p, .int .i64 v.x.h, .bool v.x.up] 112));have ku : Below wr.heap.size wr u := by rw [hu]; exact below_new _
   have U : WiAt u wr.heap.size v := by rw [hu]; exact WiAt.new wr _ v
   have K0 := K.trans (ku.mono K.size);go_upto_region 5 with fail
   rw [← hu];clear hu ku c0 c1 c2 c3 c4 c5 c6 c7 c8 c9 c10 c11 K A2 V2 a0 a1 a2 a3 a4 a5 a6 a7 a8 a9;obtain ⟨c0, c1, c2, c3, c4, c5, c6, c7, c8, c9, c10, c11⟩ := id U;go_wp2_with fail
   go_at_call 65
   clear c0 c1 c2 c3 c4 c5 c6 c7 c8 c9 c10 c11;refine (inB v.fr 0 1 u).mono ?_;rintro e u1 ⟨rfl, hw_⟩;have U := (by rw [hw_]; exact U : WiAt u1 wr.heap.size v);have K1 := (by rw [hw_]; exact K0 : Below y.heap.size y u1);clear hw_ K0;cases h1 : decide (0 ≤ v.fr ∧ v.fr ≤ 1)
   ·
    have hx : wiOk v = false := by unfold wiOk; rw [h1]; rfl
    have hN : Hid (R = false) := by unfold Hid; rw [hR.out, hNo hx]; rfl
    clear hx hNo h1;go_wp2
    go_ret
    exact ⟨by rw [hN.out]; rfl, B0.trans (K1.mono B0.size)⟩
   replace h1 : Hid _ := h1;obtain ⟨c0, c1, c2, c3, c4, c5, c6, c7, c8, c9, c10, c11⟩ := id U;go_wp2_with fail
   go_at_call 65
   clear c0 c1 c2 c3 c4 c5 c6 c7 c8 c9 c10 c11;refine (inB v.li 0 100000 u1).mono ?_;rintro e u2 ⟨rfl, hw_⟩;have U := (by rw [hw_]; exact U : WiAt u2 wr.heap.size v);have K2 := (by rw [hw_]; exact K1 : Below y.heap.size y u2);clear hw_ K1;rw [show decide (0 ≤ v.li ∧ v.li ≤ 100000) = numB v.li from rfl];cases h2 : numB v.li
   ·
    have hx : wiOk v = false := by unfold wiOk; rw [h1.out, h2]; rfl
    have hN : Hid (R = false) := by unfold Hid; rw [hR.out, hNo hx]; rfl
    clear hx hNo h2;go_wp2
    go_ret
    exact ⟨by rw [hN.out]; rfl, B0.trans (K2.mono B0.size)⟩
   replace h2 : Hid _ := h2;obtain ⟨c0, c1, c2, c3, c4, c5, c6, c7, c8, c9, c10, c11⟩ := id U;go_wp2_with fail
   go_at_call 65
   clear c0 c1 c2 c3 c4 c5 c6 c7 c8 c9 c10 c11;refine (inB v.n 0 100000 u2).mono ?_;rintro e u3 ⟨rfl, hw_⟩;have U := (by rw [hw_]; exact U : WiAt u3 wr.heap.size v);have K3 := (by rw [hw_]; exact K2 : Below y.heap.size y u3);clear hw_ K2;rw [show decide (0 ≤ v.n ∧ v.n ≤ 100000) = numB v.n from rfl];cases h3 : numB v.n
   ·
    have hx : wiOk v = false := by unfold wiOk; rw [h1.out, h2.out, h3]; rfl
    have hN : Hid (R = false) := by unfold Hid; rw [hR.out, hNo hx]; rfl
    clear hx hNo h3;go_wp2
    go_ret
    exact ⟨by rw [hN.out]; rfl, B0.trans (K3.mono B0.size)⟩
   replace h3 : Hid _ := h3;cases h4 : v.ak
   ·
    obtain ⟨c0, c1, c2, c3, c4, c5, c6, c7, c8, c9, c10, c11⟩ := id U;rw [h4] at c1;replace h4 : Hid _ := h4;go_wp2_with fail
    go_at_call 134
    clear c0 c1 c2 c3 c4 c5 c6 c7 c8 c9 c10 c11;refine (inOkS v.x u3).mono ?_;rintro e u4 ⟨rfl, k4⟩;have K4 := K3.trans (k4.mono K3.size);clear k4 K3;cases h5 : inOk v.x
    ·
     have hx : wiOk v = false := by unfold wiOk; rw [h1.out, h2.out, h3.out, h4.out, if_neg (by decide), h5]; rfl
     have hN : Hid (R = false) := by unfold Hid; rw [hR.out, hNo hx]; rfl
     clear hx hNo h5;go_wp2
     go_ret
     exact ⟨by rw [hN.out]; rfl, B0.trans (K4.mono B0.size)⟩
    replace h5 : Hid _ := h5;have hx : wiOk v = true := by unfold wiOk; rw [h1.out, h2.out, h3.out, h4.out, if_neg (by decide), h5.out]; rfl
    have hT2 : Hid ((x.net.take (k + 1)).all wiOk = true) := by unfold Hid; rw [hT.out, hx]
    clear hx hNo;go_wp2
    go_roundw
    case rel => exact ⟨k + 1, by omega, by go_num, hT2.out, K4⟩
    case measure => simp [intOf]; omega
   have eI := neqIn v.x;obtain ⟨c0, c1, c2, c3, c4, c5, c6, c7, c8, c9, c10, c11⟩ := id U;rw [h4] at c1;replace h4 : Hid _ := h4;cases h5 : inNil v.x
   ·
    rw [h5] at eI;have hx : wiOk v = false := by unfold wiOk; rw [h1.out, h2.out, h3.out, h4.out, if_pos rfl, h5]; rfl
    have hN : Hid (R = false) := by unfold Hid; rw [hR.out, hNo hx]; rfl
    clear hx hNo h5;go_wp2
    go_ret
    exact ⟨by rw [hN.out]; rfl, B0.trans (K3.mono B0.size)⟩
   rw [h5] at eI;replace h5 : Hid _ := h5;have hx : wiOk v = true := by unfold wiOk; rw [h1.out, h2.out, h3.out, h4.out, if_pos rfl, h5.out]; rfl
   have hT2 : Hid ((x.net.take (k + 1)).all wiOk = true) := by unfold Hid; rw [hT.out, hx]
   clear hx hNo;go_wp2
   go_roundw
   case rel => exact ⟨k + 1, by omega, by go_num, hT2.out, K3⟩
   case measure => simp [intOf]; omega
  obtain rfl : k = x.net.length := by omega
  have hN : Hid (R = decide ((x.net.length : Int) ≤ 20)) := by
   unfold Hid; rw [hR.out]
   have := T.out;rw [List.take_length] at this;rw [this, Bool.true_and];by_cases h : x.net.length ≤ 20
   ·
    rw [decide_eq_true h, decide_eq_true (by omega)]
   rw [decide_eq_false h, decide_eq_false (by omega)]
  go_wp2
  go_ret
  exact ⟨by rw [hN.out]; rfl, B0.trans (K.mono B0.size)⟩
structure IBox (w : World) (q : Nat) (x : Ik) : Prop where
 at_ : InAt w q x
 fr : ∀ i, w.frozen? ⟨q, i, none⟩ = false
theorem IBox.keep {w w' : World} {q : Nat} {x : Ik} (h : IBox w q x) (k : w'.heap[q]? = w.heap[q]?) : IBox w' q x := ⟨h.at_.keep k, fun i => (World.frozen?_of_block (a := ⟨q, i, none⟩) k).trans (h.fr i)⟩
theorem IBox.grown {w w' : World} {q cb : Nat} {x : Ik} (h : IBox w q x) (g : w.grownBy w' (some cb)) (hne : q ≠ cb) : IBox w' q x := h.keep (g.block q h.at_.lt (by simpa using hne))
theorem FOwn.grown {X : Type} {enc : X → List Value} {n : Nat} {T : TypeId} {base cb : Nat} {w w' : World} {v : Value} {L : List X} (h : FOwn enc n T base w v L) (g : w.grownBy w' (some cb)) (hb : cb < base) : FOwn enc n T base w' v L :=
 h.keep fun k e => g.block k (h.lt k e).2 (by have := (h.lt k e).1; simp; omega)
theorem DV.later8 {w y y' : World} {cb : Nat} {ad : Option Addr} {len cap : Nat} (h : DV w cb ad len cap y) (k : Below y.heap.size y y') : DV w cb ad len cap y' :=
 ⟨h.cur.carry (k.block _ h.cur.lt), cu_trans h.gr ⟨k.os, k.tape, k.output, k.size, fun i hi _ => k.block i hi⟩⟩
def DrewI (w : World) (cb : Nat) (ad : Option Addr) (len cap : Nat) (f : Nat → Int) (e : Ending) (w' : World) : Prop := ∃ x : Ik, e = .returned (.agg #[.int .i64 x.k, .int .i64 x.q, .int .i64 x.r, .int .i64 x.c, .int .i64 x.b, .int .i64 x.p, .int .i64 x.h, .bool x.up]) ∧ Src w' cb ad len cap f ∧ w.grownBy w' (some cb)
set_option maxHeartbeats 4000000 in
theorem drawI8 {cb : Nat} {ad : Option Addr} {len cap : Nat} {f : Nat → Int} (w : World) (hs : Src w cb ad len cap f) (hcb : cb < w.heap.size) : Calls Tryz.prog 139 #[.pointer (some ⟨cb, 0, none⟩)] w fun e w' => DrewI w cb ad len cap f e w' := by
 obtain ⟨R, hRe⟩ := mk_ w.heap.size;have hR : w.heap.size ≤ R := by omega
 have hRc : R ≠ cb := by omega
 obtain ⟨x0, hx0⟩ := mk_ (w.alloc (Obj.cells #[.int .i64 0, .int .i64 0, .int .i64 0, .int .i64 0, .int .i64 0, .int .i64 0, .int .i64 0, .bool false] 105));have D0 : DV w cb ad len cap x0 := by rw [hx0]; exact (DV.start hs).alloc _
 have Q0 : IBox x0 R ⟨0, 0, 0, 0, 0, 0, 0, false⟩ := by rw [hx0, hRe]; exact ⟨InAt.new w _ ⟨0, 0, 0, 0, 0, 0, 0, false⟩, fun i => by simp [go_sem]⟩
 go_enter Tryz.func139, Tryz.ntmps139
 go_wp2_with fail
 go_at_call 76
 rw [← hx0, ← hRe];clear hx0 hRe;refine (drawBelow (D0.src hs) 4 (by decide) (by decide)).mono ?_;rintro e y1 ⟨q, rfl, q0_, q1_, s1, g1⟩;have D1 := D0.step s1 g1;have Q1 := Q0.grown g1 hRc;clear D0 Q0 s1 g1;go_wp2_with fail
 go_at_call 76
 refine (drawBelow (D1.src hs) 4 (by decide) (by decide)).mono ?_;rintro e y2 ⟨t, rfl, t0_, t1_, s2, g2⟩;have D2 := D1.step s2 g2;have Q2 := Q1.grown g2 hRc;clear D1 Q1 s2 g2;by_cases h0 : t = 0
 ·
  subst h0;have DZ := ((((((((D2.set (N := R) (i := 0) (by omega) hcb (.int .i64 2)).set (N := R) (i := 1) (by omega) hcb (.int .i64 0)).set (N := R) (i := 2) (by omega) hcb (.int .i64 0)).set (N := R) (i := 3) (by omega) hcb (.int .i64 0)).set (N := R) (i := 4) (by omega) hcb (.int .i64 0)).set (N := R) (i := 5) (by omega) hcb (.int .i64 0)).set (N := R) (i := 6) (by omega) hcb (.int .i64 0)).set (N := R) (i := 7) (by omega) hcb (.bool false));obtain ⟨⟨q0, q1, q2, q3, q4, q5, q6, q7⟩, qf⟩ := Q2;go_wp2
  refine bodyPost_ret (v := .agg #[.int .i64 2, .int .i64 0, .int .i64 0, .int .i64 0, .int .i64 0, .int .i64 0, .int .i64 0, .bool false]) (by simp [results, Tryz.results139, go_sem, *]) rfl ⟨⟨2, 0, 0, 0, 0, 0, 0, false⟩, rfl, DZ.src hs, DZ.gr⟩
 have e0 : (t == 0) = false := by simpa using h0
 by_cases h1 : t = 1
 ·
  subst h1;clear h0 e0;go_wp2_with fail
  go_at_call 54
  refine (drawOnce (D2.src hs) 3 (by decide) (by decide)).mono ?_;rintro e y3 ⟨bo, rfl, s3, g3⟩;have D3 := D2.step s3 g3;have Q3 := Q2.grown g3 hRc;clear D2 Q2 s3 g3;have DZ := ((((((((D3.set (N := R) (i := 0) (by omega) hcb (.int .i64 3)).set (N := R) (i := 1) (by omega) hcb (.int .i64 q)).set (N := R) (i := 2) (by omega) hcb (.int .i64 0)).set (N := R) (i := 3) (by omega) hcb (.int .i64 0)).set (N := R) (i := 4) (by omega) hcb (.int .i64 0)).set (N := R) (i := 5) (by omega) hcb (.int .i64 0)).set (N := R) (i := 6) (by omega) hcb (.int .i64 0)).set (N := R) (i := 7) (by omega) hcb (.bool (!bo)));obtain ⟨⟨q0, q1, q2, q3, q4, q5, q6, q7⟩, qf⟩ := Q3;go_wp2
  refine bodyPost_ret (v := .agg #[.int .i64 3, .int .i64 q, .int .i64 0, .int .i64 0, .int .i64 0, .int .i64 0, .int .i64 0, .bool (!bo)]) (by simp [results, Tryz.results139, go_sem, *]) rfl ⟨⟨3, q, 0, 0, 0, 0, 0, (!bo)⟩, rfl, DZ.src hs, DZ.gr⟩
 have e1 : (t == 1) = false := by simpa using h1
 go_wp2_with fail
 go_at_call 186
 refine (drawR6 y2 (D2.src hs) D2.cur.lt).mono ?_;rintro e y3 ⟨r, c, b, p, rfl, _, s3, g3⟩;have D3 := D2.step s3 g3;have Q3 := Q2.grown g3 hRc;clear D2 Q2 s3 g3;go_wp2_with fail
 go_at_call 76
 refine (drawBelow (D3.src hs) 4 (by decide) (by decide)).mono ?_;rintro e y4 ⟨h, rfl, h0_, h1_, s4, g4⟩;have D4 := D3.step s4 g4;have Q4 := Q3.grown g4 hRc;clear D3 Q3 s4 g4;have DZ := ((((((((D4.set (N := R) (i := 0) (by omega) hcb (.int .i64 1)).set (N := R) (i := 1) (by omega) hcb (.int .i64 q)).set (N := R) (i := 2) (by omega) hcb (.int .i64 r)).set (N := R) (i := 3) (by omega) hcb (.int .i64 c)).set (N := R) (i := 4) (by omega) hcb (.int .i64 b)).set (N := R) (i := 5) (by omega) hcb (.int .i64 p)).set (N := R) (i := 6) (by omega) hcb (.int .i64 h)).set (N := R) (i := 7) (by omega) hcb (.bool false));obtain ⟨⟨q0, q1, q2, q3, q4, q5, q6, q7⟩, qf⟩ := Q4;go_wp2
 refine bodyPost_ret (v := .agg #[.int .i64 1, .int .i64 q, .int .i64 r, .int .i64 c, .int .i64 b, .int .i64 p, .int .i64 h, .bool false]) (by simp [results, Tryz.results139, go_sem, *]) rfl ⟨⟨1, q, r, c, b, p, h, false⟩, rfl, DZ.src hs, DZ.gr⟩
def B8 (x : Ik) : Prop := (-9 ≤ x.q ∧ x.q ≤ 200) ∧ (-9 ≤ x.r ∧ x.r ≤ 200) ∧ (-9 ≤ x.c ∧ x.c ≤ 200) ∧ (-9 ≤ x.b ∧ x.b ≤ 200) ∧ (-9 ≤ x.p ∧ x.p ≤ 200) ∧ (-9 ≤ x.h ∧ x.h ≤ 200)
def DrewJ (w : World) (cb : Nat) (ad : Option Addr) (len cap : Nat) (f : Nat → Int) (e : Ending) (w' : World) : Prop := ∃ x : Ik, e = .returned (.agg #[.int .i64 x.k, .int .i64 x.q, .int .i64 x.r, .int .i64 x.c, .int .i64 x.b, .int .i64 x.p, .int .i64 x.h, .bool x.up]) ∧ Src w' cb ad len cap f ∧ w.grownBy w' (some cb) ∧ B8 x
set_option maxHeartbeats 4000000 in
theorem drawJ8 {cb : Nat} {ad : Option Addr} {len cap : Nat} {f : Nat → Int} (w : World) (hs : Src w cb ad len cap f) (hcb : cb < w.heap.size) : Calls Tryz.prog 139 #[.pointer (some ⟨cb, 0, none⟩)] w fun e w' => DrewJ w cb ad len cap f e w' := by
 obtain ⟨R, hRe⟩ := mk_ w.heap.size;have hR : w.heap.size ≤ R := by omega
 have hRc : R ≠ cb := by omega
 obtain ⟨x0, hx0⟩ := mk_ (w.alloc (Obj.cells #[.int .i64 0, .int .i64 0, .int .i64 0, .int .i64 0, .int .i64 0, .int .i64 0, .int .i64 0, .bool false] 105));have D0 : DV w cb ad len cap x0 := by rw [hx0]; exact (DV.start hs).alloc _
 have Q0 : IBox x0 R ⟨0, 0, 0, 0, 0, 0, 0, false⟩ := by rw [hx0, hRe]; exact ⟨InAt.new w _ ⟨0, 0, 0, 0, 0, 0, 0, false⟩, fun i => by simp [go_sem]⟩
 go_enter Tryz.func139, Tryz.ntmps139
 go_wp2_with fail
 go_at_call 76
 rw [← hx0, ← hRe];clear hx0 hRe;refine (drawBelow (D0.src hs) 4 (by decide) (by decide)).mono ?_;rintro e y1 ⟨q, rfl, q0_, q1_, s1, g1⟩;have D1 := D0.step s1 g1;have Q1 := Q0.grown g1 hRc;clear D0 Q0 s1 g1;go_wp2_with fail
 go_at_call 76
 refine (drawBelow (D1.src hs) 4 (by decide) (by decide)).mono ?_;rintro e y2 ⟨t, rfl, t0_, t1_, s2, g2⟩;have D2 := D1.step s2 g2;have Q2 := Q1.grown g2 hRc;clear D1 Q1 s2 g2;by_cases h0 : t = 0
 ·
  subst h0;have DZ := ((((((((D2.set (N := R) (i := 0) (by omega) hcb (.int .i64 2)).set (N := R) (i := 1) (by omega) hcb (.int .i64 0)).set (N := R) (i := 2) (by omega) hcb (.int .i64 0)).set (N := R) (i := 3) (by omega) hcb (.int .i64 0)).set (N := R) (i := 4) (by omega) hcb (.int .i64 0)).set (N := R) (i := 5) (by omega) hcb (.int .i64 0)).set (N := R) (i := 6) (by omega) hcb (.int .i64 0)).set (N := R) (i := 7) (by omega) hcb (.bool false));obtain ⟨⟨q0, q1, q2, q3, q4, q5, q6, q7⟩, qf⟩ := Q2;go_wp2
  refine bodyPost_ret (v := .agg #[.int .i64 2, .int .i64 0, .int .i64 0, .int .i64 0, .int .i64 0, .int .i64 0, .int .i64 0, .bool false]) (by simp [results, Tryz.results139, go_sem, *]) rfl ⟨⟨2, 0, 0, 0, 0, 0, 0, false⟩, rfl, DZ.src hs, DZ.gr, by first | (unfold B8; simp; done) | (unfold B8; simp; omega) | (unfold V4 at hV4; unfold B8; simp only; omega)⟩
 have e0 : (t == 0) = false := by simpa using h0
 by_cases h1 : t = 1
 ·
  subst h1;clear h0 e0;go_wp2_with fail
  go_at_call 54
  refine (drawOnce (D2.src hs) 3 (by decide) (by decide)).mono ?_;rintro e y3 ⟨bo, rfl, s3, g3⟩;have D3 := D2.step s3 g3;have Q3 := Q2.grown g3 hRc;clear D2 Q2 s3 g3;have DZ := ((((((((D3.set (N := R) (i := 0) (by omega) hcb (.int .i64 3)).set (N := R) (i := 1) (by omega) hcb (.int .i64 q)).set (N := R) (i := 2) (by omega) hcb (.int .i64 0)).set (N := R) (i := 3) (by omega) hcb (.int .i64 0)).set (N := R) (i := 4) (by omega) hcb (.int .i64 0)).set (N := R) (i := 5) (by omega) hcb (.int .i64 0)).set (N := R) (i := 6) (by omega) hcb (.int .i64 0)).set (N := R) (i := 7) (by omega) hcb (.bool (!bo)));obtain ⟨⟨q0, q1, q2, q3, q4, q5, q6, q7⟩, qf⟩ := Q3;go_wp2
  refine bodyPost_ret (v := .agg #[.int .i64 3, .int .i64 q, .int .i64 0, .int .i64 0, .int .i64 0, .int .i64 0, .int .i64 0, .bool (!bo)]) (by simp [results, Tryz.results139, go_sem, *]) rfl ⟨⟨3, q, 0, 0, 0, 0, 0, (!bo)⟩, rfl, DZ.src hs, DZ.gr, by first | (unfold B8; simp; done) | (unfold B8; simp; omega) | (unfold V4 at hV4; unfold B8; simp only; omega)⟩
 have e1 : (t == 1) = false := by simpa using h1
 go_wp2_with fail
 go_at_call 186
 refine (drawR6 y2 (D2.src hs) D2.cur.lt).mono ?_;rintro e y3 ⟨r, c, b, p, rfl, hV4, s3, g3⟩;have D3 := D2.step s3 g3;have Q3 := Q2.grown g3 hRc;clear D2 Q2 s3 g3;go_wp2_with fail
 go_at_call 76
 refine (drawBelow (D3.src hs) 4 (by decide) (by decide)).mono ?_;rintro e y4 ⟨h, rfl, h0_, h1_, s4, g4⟩;have D4 := D3.step s4 g4;have Q4 := Q3.grown g4 hRc;clear D3 Q3 s4 g4;have DZ := ((((((((D4.set (N := R) (i := 0) (by omega) hcb (.int .i64 1)).set (N := R) (i := 1) (by omega) hcb (.int .i64 q)).set (N := R) (i := 2) (by omega) hcb (.int .i64 r)).set (N := R) (i := 3) (by omega) hcb (.int .i64 c)).set (N := R) (i := 4) (by omega) hcb (.int .i64 b)).set (N := R) (i := 5) (by omega) hcb (.int .i64 p)).set (N := R) (i := 6) (by omega) hcb (.int .i64 h)).set (N := R) (i := 7) (by omega) hcb (.bool false));obtain ⟨⟨q0, q1, q2, q3, q4, q5, q6, q7⟩, qf⟩ := Q4;go_wp2
 refine bodyPost_ret (v := .agg #[.int .i64 1, .int .i64 q, .int .i64 r, .int .i64 c, .int .i64 b, .int .i64 p, .int .i64 h, .bool false]) (by simp [results, Tryz.results139, go_sem, *]) rfl ⟨⟨1, q, r, c, b, p, h, false⟩, rfl, DZ.src hs, DZ.gr, by first | (unfold B8; simp; done) | (unfold B8; simp; omega) | (unfold V4 at hV4; unfold B8; simp only; omega)⟩
end Go.Proofs.YtnpiljegdiconaaGreat
