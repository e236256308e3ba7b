import Derived.Test.YthgcbihhdbpbdaaGreatRM9
import Derived.Test.YthgcbihhdbpbdaaGreatRM5
namespace Go.Proofs.YthgcbihhdbpbdaaGreat
open Go.ChangeShapes Go.WideShapes Go.ChangeAt Go.RowKit
open Go.ChangeMaps (open_string shut_string)
set_option linter.unusedVariables false
set_option maxRecDepth 100000
set_option maxHeartbeats 32000000
set_option linter.unusedSimpArgs false
open Go.Proofs.Tryz
attribute [local go_sem] ji ja ic
structure Cf (w : World) (q : Nat) (x : Ik) : Prop where
 at_ : A8 w q x
 fr : ∀ i, w.frozen? (ja q i) = false
theorem Cf.keep {w w' : World} {q : Nat} {x : Ik} (h : Cf w q x) (k : w'.heap[q]? = w.heap[q]?) : Cf w' q x := ⟨h.at_.keep k, fun i => (World.frozen?_of_block (a := (ja q i)) k).trans (h.fr i)⟩
theorem Cf.grown {w w' : World} {q cb : Nat} {x : Ik} (h : Cf w q x) (g : w.grownBy w' (some cb)) (hne : q ≠ cb) : Cf w' q x := h.keep (g.block q h.at_.lt (by simpa using hne))
theorem AD.grown {X : Type} {enc : X → List Value} {n : Nat} {T : TypeId} {base cb : Nat} {w w' : World} {v : Value} {L : List X} (h : AD enc n T base w v L) (g : w.grownBy w' (some cb)) (hb : cb < base) : AD enc n T base w' v L :=
 h.keep fun k e => g.block k (h.lt k e).2 (by have := (h.lt k e).1; simp; omega)
theorem DV.later8 {w y y' : World} {cb : Nat} {ad : Option Addr} {len cap : Nat} (h : DV w cb ad len cap y) (k : Bw y y') : DV w cb ad len cap y' :=
 ⟨h.cur.carry (k.block _ h.cur.lt), Hu h.gr ⟨k.os, k.tape, k.output, k.size, fun i hi _ => k.block i hi⟩⟩
def LZ (w : World) (cb : Nat) (ad : Option Addr) (len cap : Nat) (f : Nat → Int) (e : Ending) (w' : World) : Prop := ∃ x : Ik, e = .returned (.agg (ic x)) ∧ BN w' cb ad len cap f ∧ w.grownBy w' (some cb)
theorem KR {cb : Nat} {ad : Option Addr} {len cap : Nat} {f : Nat → Int} (w : World) (hs : BN w cb ad len cap f) (hcb : cb < w.heap.size) : Calls prog 88 #[.pointer (some (ja cb 0))] w fun e w' => LZ w cb ad len cap f e w' := by
 obtain ⟨R, hRe⟩ := AB w.heap.size;have hR : w.heap.size ≤ R := by omega
 have hRc : R ≠ cb := by omega
 obtain ⟨x0, hx0⟩ := AB (w.alloc (Obj.cells #[ji 0, ji 0, ji 0, ji 0, ji 0, ji 0, ji 0, .bool false] 64));have D0 : DV w cb ad len cap x0 := by rw [hx0]; exact (DV.start hs).alloc _
 have Q0 : Cf x0 R ⟨0, 0, 0, 0, 0, 0, 0, false⟩ := by rw [hx0, hRe]; exact ⟨A8.new w _ ⟨0, 0, 0, 0, 0, 0, 0, false⟩, fun i => by simp [go_sem]⟩
 go_enter func88, ntmps88
 go_wp2_with fail
 go_at_call 38
 rw [← hx0, ← hRe];clear hx0 hRe;refine (Bz (D0.src hs) 4 (by decide) (by decide)).mono ?_;rintro e y1 ⟨q, rfl, q0_, q1_, s1, g1⟩;have D1 := D0.step s1 g1;have Q1 := Q0.grown g1 hRc;clear D0 Q0 s1 g1;go_wp2_with fail
 go_at_call 38
 refine (Bz (D1.src hs) 4 (by decide) (by decide)).mono ?_;rintro e y2 ⟨t, rfl, t0_, t1_, s2, g2⟩;have D2 := D1.step s2 g2;have Q2 := Q1.grown g2 hRc;clear D1 Q1 s2 g2;by_cases h0 : t = 0
 ·
  subst h0;have DZ := ((((((((D2.set (N := R) (i := 0) (by omega) hcb (ji 2)).set (N := R) (i := 1) (by omega) hcb (ji 0)).set (N := R) (i := 2) (by omega) hcb (ji 0)).set (N := R) (i := 3) (by omega) hcb (ji 0)).set (N := R) (i := 4) (by omega) hcb (ji 0)).set (N := R) (i := 5) (by omega) hcb (ji 0)).set (N := R) (i := 6) (by omega) hcb (ji 0)).set (N := R) (i := 7) (by omega) hcb (.bool false));obtain ⟨⟨q0, q1, q2, q3, q4, q5, q6, q7⟩, qf⟩ := Q2;go_wp2
  refine bodyPost_ret (v := .agg #[ji 2, ji 0, ji 0, ji 0, ji 0, ji 0, ji 0, .bool false]) (by simp [results, results88, go_sem, *]) rfl ⟨⟨2, 0, 0, 0, 0, 0, 0, false⟩, rfl, DZ.src hs, DZ.gr⟩
 have e0 : (t == 0) = false := by simpa using h0
 by_cases h1 : t = 1
 ·
  subst h1;clear h0 e0;go_wp2_with fail
  go_at_call 87
  refine (Ht (D2.src hs) 3 (by decide) (by decide)).mono ?_;rintro e y3 ⟨bo, rfl, s3, g3⟩;have D3 := D2.step s3 g3;have Q3 := Q2.grown g3 hRc;clear D2 Q2 s3 g3;have DZ := ((((((((D3.set (N := R) (i := 0) (by omega) hcb (ji 3)).set (N := R) (i := 1) (by omega) hcb (ji q)).set (N := R) (i := 2) (by omega) hcb (ji 0)).set (N := R) (i := 3) (by omega) hcb (ji 0)).set (N := R) (i := 4) (by omega) hcb (ji 0)).set (N := R) (i := 5) (by omega) hcb (ji 0)).set (N := R) (i := 6) (by omega) hcb (ji 0)).set (N := R) (i := 7) (by omega) hcb (.bool (!bo)));obtain ⟨⟨q0, q1, q2, q3, q4, q5, q6, q7⟩, qf⟩ := Q3;go_wp2
  refine bodyPost_ret (v := .agg #[ji 3, ji q, ji 0, ji 0, ji 0, ji 0, ji 0, .bool (!bo)]) (by simp [results, results88, go_sem, *]) rfl ⟨⟨3, q, 0, 0, 0, 0, 0, (!bo)⟩, rfl, DZ.src hs, DZ.gr⟩
 have e1 : (t == 1) = false := by simpa using h1
 go_wp2_with fail
 go_at_call 128
 refine (Gn y2 (D2.src hs) D2.cur.lt).mono ?_;rintro e y3 ⟨r, c, b, p, rfl, _, s3, g3⟩;have D3 := D2.step s3 g3;have Q3 := Q2.grown g3 hRc;clear D2 Q2 s3 g3;go_wp2_with fail
 go_at_call 38
 refine (Bz (D3.src hs) 4 (by decide) (by decide)).mono ?_;rintro e y4 ⟨h, rfl, h0_, h1_, s4, g4⟩;have D4 := D3.step s4 g4;have Q4 := Q3.grown g4 hRc;clear D3 Q3 s4 g4;have DZ := ((((((((D4.set (N := R) (i := 0) (by omega) hcb (ji 1)).set (N := R) (i := 1) (by omega) hcb (ji q)).set (N := R) (i := 2) (by omega) hcb (ji r)).set (N := R) (i := 3) (by omega) hcb (ji c)).set (N := R) (i := 4) (by omega) hcb (ji b)).set (N := R) (i := 5) (by omega) hcb (ji p)).set (N := R) (i := 6) (by omega) hcb (ji h)).set (N := R) (i := 7) (by omega) hcb (.bool false));obtain ⟨⟨q0, q1, q2, q3, q4, q5, q6, q7⟩, qf⟩ := Q4;go_wp2
 refine bodyPost_ret (v := .agg #[ji 1, ji q, ji r, ji c, ji b, ji p, ji h, .bool false]) (by simp [results, results88, go_sem, *]) rfl ⟨⟨1, q, r, c, b, p, h, false⟩, rfl, DZ.src hs, DZ.gr⟩
def B8 (x : Ik) : Prop := (-9 ≤ x.q ∧ x.q ≤ 200) ∧ (-9 ≤ x.r ∧ x.r ≤ 200) ∧ (-9 ≤ x.c ∧ x.c ≤ 200) ∧ (-9 ≤ x.b ∧ x.b ≤ 200) ∧ (-9 ≤ x.p ∧ x.p ≤ 200) ∧ (-9 ≤ x.h ∧ x.h ≤ 200)
def IW (w : World) (cb : Nat) (ad : Option Addr) (len cap : Nat) (f : Nat → Int) (e : Ending) (w' : World) : Prop := ∃ x : Ik, e = .returned (.agg (ic x)) ∧ BN w' cb ad len cap f ∧ w.grownBy w' (some cb) ∧ B8 x
theorem KQ {cb : Nat} {ad : Option Addr} {len cap : Nat} {f : Nat → Int} (w : World) (hs : BN w cb ad len cap f) (hcb : cb < w.heap.size) : Calls prog 88 #[.pointer (some (ja cb 0))] w fun e w' => IW w cb ad len cap f e w' := by
 obtain ⟨R, hRe⟩ := AB w.heap.size;have hR : w.heap.size ≤ R := by omega
 have hRc : R ≠ cb := by omega
 obtain ⟨x0, hx0⟩ := AB (w.alloc (Obj.cells #[ji 0, ji 0, ji 0, ji 0, ji 0, ji 0, ji 0, .bool false] 64));have D0 : DV w cb ad len cap x0 := by rw [hx0]; exact (DV.start hs).alloc _
 have Q0 : Cf x0 R ⟨0, 0, 0, 0, 0, 0, 0, false⟩ := by rw [hx0, hRe]; exact ⟨A8.new w _ ⟨0, 0, 0, 0, 0, 0, 0, false⟩, fun i => by simp [go_sem]⟩
 go_enter func88, ntmps88
 go_wp2_with fail
 go_at_call 38
 rw [← hx0, ← hRe];clear hx0 hRe;refine (Bz (D0.src hs) 4 (by decide) (by decide)).mono ?_;rintro e y1 ⟨q, rfl, q0_, q1_, s1, g1⟩;have D1 := D0.step s1 g1;have Q1 := Q0.grown g1 hRc;clear D0 Q0 s1 g1;go_wp2_with fail
 go_at_call 38
 refine (Bz (D1.src hs) 4 (by decide) (by decide)).mono ?_;rintro e y2 ⟨t, rfl, t0_, t1_, s2, g2⟩;have D2 := D1.step s2 g2;have Q2 := Q1.grown g2 hRc;clear D1 Q1 s2 g2;by_cases h0 : t = 0
 ·
  subst h0;have DZ := ((((((((D2.set (N := R) (i := 0) (by omega) hcb (ji 2)).set (N := R) (i := 1) (by omega) hcb (ji 0)).set (N := R) (i := 2) (by omega) hcb (ji 0)).set (N := R) (i := 3) (by omega) hcb (ji 0)).set (N := R) (i := 4) (by omega) hcb (ji 0)).set (N := R) (i := 5) (by omega) hcb (ji 0)).set (N := R) (i := 6) (by omega) hcb (ji 0)).set (N := R) (i := 7) (by omega) hcb (.bool false));obtain ⟨⟨q0, q1, q2, q3, q4, q5, q6, q7⟩, qf⟩ := Q2;go_wp2
  refine bodyPost_ret (v := .agg #[ji 2, ji 0, ji 0, ji 0, ji 0, ji 0, ji 0, .bool false]) (by simp [results, results88, go_sem, *]) rfl ⟨⟨2, 0, 0, 0, 0, 0, 0, false⟩, rfl, DZ.src hs, DZ.gr, by first | (unfold B8; simp; done) | (unfold B8; simp; omega) | (unfold V4 at hV4; unfold B8; simp only; omega)⟩
 have e0 : (t == 0) = false := by simpa using h0
 by_cases h1 : t = 1
 ·
  subst h1;clear h0 e0;go_wp2_with fail
  go_at_call 87
  refine (Ht (D2.src hs) 3 (by decide) (by decide)).mono ?_;rintro e y3 ⟨bo, rfl, s3, g3⟩;have D3 := D2.step s3 g3;have Q3 := Q2.grown g3 hRc;clear D2 Q2 s3 g3;have DZ := ((((((((D3.set (N := R) (i := 0) (by omega) hcb (ji 3)).set (N := R) (i := 1) (by omega) hcb (ji q)).set (N := R) (i := 2) (by omega) hcb (ji 0)).set (N := R) (i := 3) (by omega) hcb (ji 0)).set (N := R) (i := 4) (by omega) hcb (ji 0)).set (N := R) (i := 5) (by omega) hcb (ji 0)).set (N := R) (i := 6) (by omega) hcb (ji 0)).set (N := R) (i := 7) (by omega) hcb (.bool (!bo)));obtain ⟨⟨q0, q1, q2, q3, q4, q5, q6, q7⟩, qf⟩ := Q3;go_wp2
  refine bodyPost_ret (v := .agg #[ji 3, ji q, ji 0, ji 0, ji 0, ji 0, ji 0, .bool (!bo)]) (by simp [results, results88, go_sem, *]) rfl ⟨⟨3, q, 0, 0, 0, 0, 0, (!bo)⟩, rfl, DZ.src hs, DZ.gr, by first | (unfold B8; simp; done) | (unfold B8; simp; omega) | (unfold V4 at hV4; unfold B8; simp only; omega)⟩
 have e1 : (t == 1) = false := by simpa using h1
 go_wp2_with fail
 go_at_call 128
 refine (Gn y2 (D2.src hs) D2.cur.lt).mono ?_;rintro e y3 ⟨r, c, b, p, rfl, hV4, s3, g3⟩;have D3 := D2.step s3 g3;have Q3 := Q2.grown g3 hRc;clear D2 Q2 s3 g3;go_wp2_with fail
 go_at_call 38
 refine (Bz (D3.src hs) 4 (by decide) (by decide)).mono ?_;rintro e y4 ⟨h, rfl, h0_, h1_, s4, g4⟩;have D4 := D3.step s4 g4;have Q4 := Q3.grown g4 hRc;clear D3 Q3 s4 g4;have DZ := ((((((((D4.set (N := R) (i := 0) (by omega) hcb (ji 1)).set (N := R) (i := 1) (by omega) hcb (ji q)).set (N := R) (i := 2) (by omega) hcb (ji r)).set (N := R) (i := 3) (by omega) hcb (ji c)).set (N := R) (i := 4) (by omega) hcb (ji b)).set (N := R) (i := 5) (by omega) hcb (ji p)).set (N := R) (i := 6) (by omega) hcb (ji h)).set (N := R) (i := 7) (by omega) hcb (.bool false));obtain ⟨⟨q0, q1, q2, q3, q4, q5, q6, q7⟩, qf⟩ := Q4;go_wp2
 refine bodyPost_ret (v := .agg #[ji 1, ji q, ji r, ji c, ji b, ji p, ji h, .bool false]) (by simp [results, results88, go_sem, *]) rfl ⟨⟨1, q, r, c, b, p, h, false⟩, rfl, DZ.src hs, DZ.gr, by first | (unfold B8; simp; done) | (unfold B8; simp; omega) | (unfold V4 at hV4; unfold B8; simp only; omega)⟩
theorem AH.oneJ (w : World) (t : TypeId) (x : Ik) : AH AS (w.alloc (Obj.cells #[ji x.k, ji x.q, ji x.r, ji x.c, ji x.b, ji x.p, ji x.h, .bool x.up] t)) (some (ja w.heap.size 0)) [x] := by
 intro _;refine ⟨w.heap.size, 0, rfl, fun j v hv => ?_⟩;simp only [Ac, AS, List.append_nil] at hv;have hj : j < 8 := (List.getElem?_eq_some_iff.1 hv).1;rcases (by omega : j = 0 ∨ j = 1 ∨ j = 2 ∨ j = 3 ∨ j = 4 ∨ j = 5 ∨ j = 6 ∨ j = 7) with rfl | rfl | rfl | rfl | rfl | rfl | rfl | rfl <;> (cases hv; simp [go_sem])
theorem He {w y z : World} {cb : Nat} {v : Value} (h : w.grownBy y (some cb)) (g : y.grownBy z v.ownBlock) (ho : ∀ k, v.ownBlock = some k → w.heap.size ≤ k) : w.grownBy z (some cb) :=
 ⟨g.os.trans h.os, g.tape.trans h.tape, g.output.trans h.output, Nat.le_trans h.size g.size, fun j hj hne => (g.block j (Nat.lt_of_lt_of_le hj h.size) (fun e => by have := ho j e.symm; omega)).trans (h.block j hj hne)⟩
attribute [local go_sem] pc
theorem JV (x : Pt) (w : World) (hok : Ai x = true) : Calls prog 125 #[.agg #[.bool x.up, .bool x.has, ji x.r, ji x.c, ji x.b, ji x.p, ji x.h, ji x.l, ji x.ro, ji x.wa, .bool x.op]] w fun e w' => e = .returned (.agg #[.bool (BG x).up, .bool (BG x).has, ji (BG x).r, ji (BG x).c, ji (BG x).b, ji (BG x).p, ji (BG x).h, ji (BG x).l, ji (BG x).ro, ji (BG x).wa, .bool (BG x).op]) ∧ Bw w w' := by
 obtain ⟨y, hy⟩ := AB ((w.alloc (Obj.cells (pc x) 70)).alloc (Obj.cells #[.bool false, .bool false, ji 0, ji 0, ji 0, ji 0, ji 0, ji 0, ji 0, ji 0, .bool false] 70));have B0 : Bw w y := by rw [hy]; exact ((Below.refl _ _).alloc (Nat.le_refl _) _).alloc (by simp) _
 have P0 : Ae y w.heap.size x := by rw [hy]; refine ⟨?_, fun i => ?_⟩; constructor <;> simp [go_sem]; simp [go_sem]
 have R0 : Ae y (w.heap.size + 1) Pt.nil := by rw [hy]; refine ⟨?_, fun i => ?_⟩; constructor <;> simp [go_sem, Pt.nil]; simp [go_sem]
 have S0 := R0.lt;obtain ⟨t, ht⟩ : ∃ t, BG x = t := ⟨_, rfl⟩;rw [ht];obtain ⟨z, hz⟩ : ∃ z, Az x = z := ⟨_, rfl⟩;have hti : Hid (t = if (z.ro = 1 ∨ z.ro = 2) ∧ 0 < z.wa then { z with wa := z.wa - 1, op := (z.wa - 1 == 0) } else z) := by unfold Hid; rw [← ht, Hl hok, hz]
 have hw4 : z.wa ≤ 4 ∧ 0 ≤ z.wa := by
  have := (GS.1 hok).2.2.2.1;have e := (GF x).2.2.1;rw [hz] at e;omega
 have htr : Hid (t = { z with wa := Dy z, op := BC z.ro (Dy z) }) := by unfold Hid; rw [← ht, ← hz]; rfl
 obtain ⟨hw4, hw0⟩ := hw4;replace hz : Hid _ := hz;clear ht hok;go_enter func125, ntmps125
 go_wp2_with fail
 go_at_call 151
 rw [← hy];clear hy;refine (LO x y).mono ?_;rintro e w1 ⟨rfl, k1⟩;rw [hz.out];have B1 := AA B0 k1;have P1 := P0.below k1 (by omega);have R1 := R0.below k1 (by omega);have S1 := R1.lt;clear hz k1 P0 R0 B0 S0;obtain ⟨y2, hy2⟩ := AB (((((((((((w1.setCell (ja w.heap.size 0) (.bool z.up)).setCell (ja w.heap.size 1) (.bool z.has)).setCell (ja w.heap.size 2) (ji z.r)).setCell (ja w.heap.size 3) (ji z.c)).setCell (ja w.heap.size 4) (ji z.b)).setCell (ja w.heap.size 5) (ji z.p)).setCell (ja w.heap.size 6) (ji z.h)).setCell (ja w.heap.size 7) (ji z.l)).setCell (ja w.heap.size 8) (ji z.ro)).setCell (ja w.heap.size 9) (ji z.wa)).setCell (ja w.heap.size 10) (.bool z.op));have P2 : Ae y2 w.heap.size z := by rw [hy2]; exact (((((((((((P1.set0 z.up).set1 z.has).set2 z.r).set3 z.c).set4 z.b).set5 z.p).set6 z.h).set7 z.l).set8 z.ro).set9 z.wa).set10 z.op)
 have R2 : Ae y2 (w.heap.size + 1) Pt.nil := by rw [hy2]; exact (((((((((((R1.other (by omega)).other (by omega)).other (by omega)).other (by omega)).other (by omega)).other (by omega)).other (by omega)).other (by omega)).other (by omega)).other (by omega)).other (by omega))
 have B2 : Bw w y2 := by rw [hy2]; exact (((((((((((B1.setCell (p := (ja w.heap.size 0)) (by show _ ≤ w.heap.size; omega) (.bool z.up)).setCell (p := (ja w.heap.size 1)) (by show _ ≤ w.heap.size; omega) (.bool z.has)).setCell (p := (ja w.heap.size 2)) (by show _ ≤ w.heap.size; omega) (ji z.r)).setCell (p := (ja w.heap.size 3)) (by show _ ≤ w.heap.size; omega) (ji z.c)).setCell (p := (ja w.heap.size 4)) (by show _ ≤ w.heap.size; omega) (ji z.b)).setCell (p := (ja w.heap.size 5)) (by show _ ≤ w.heap.size; omega) (ji z.p)).setCell (p := (ja w.heap.size 6)) (by show _ ≤ w.heap.size; omega) (ji z.h)).setCell (p := (ja w.heap.size 7)) (by show _ ≤ w.heap.size; omega) (ji z.l)).setCell (p := (ja w.heap.size 8)) (by show _ ≤ w.heap.size; omega) (ji z.ro)).setCell (p := (ja w.heap.size 9)) (by show _ ≤ w.heap.size; omega) (ji z.wa)).setCell (p := (ja w.heap.size 10)) (by show _ ≤ w.heap.size; omega) (.bool z.op))
 have P1' := P1;obtain ⟨⟨p0, p1, p2, p3, p4, p5, p6, p7, p8, p9, p10⟩, pf⟩ := P1;go_upto_region 2 with fail
 rw [← hy2];clear hy2 p0 p1 p2 p3 p4 p5 p6 p7 p8 p9 p10 pf P1' R1 B1;obtain ⟨⟨p0, p1, p2, p3, p4, p5, p6, p7, p8, p9, p10⟩, pf⟩ := P2;have P2 : Ae y2 w.heap.size z := ⟨⟨p0, p1, p2, p3, p4, p5, p6, p7, p8, p9, p10⟩, pf⟩;by_cases h1 : z.ro = 1
 ·
  have d1 : (z.ro == 1) = true := by simpa using h1
  by_cases h0 : 0 < z.wa
  focus
   have d0 : decide (0 < z.wa) = true := decide_eq_true h0;have hcc : Hid ((z.ro = 1 ∨ z.ro = 2) ∧ 0 < z.wa) := ⟨.inl h1, h0⟩;replace h1 : Hid _ := h1;have P3 := P2.set9 (z.wa - 1);have B3 := B2.setCell (p := (ja w.heap.size 9)) (Nat.le_refl w.heap.size) (ji (z.wa - 1));have R3 := R2.other (q' := w.heap.size) (i := 9) (v := ji (z.wa - 1)) (by omega);obtain ⟨y3, hy3⟩ := AB (y2.setCell (ja w.heap.size 9) (ji (z.wa - 1)));rw [← hy3] at P3 B3 R3;go_upto_region 4 with fail
   rw [← hy3];clear hy3 p0 p1 p2 p3 p4 p5 p6 p7 p8 p9 p10 pf P2 B2 R2;obtain ⟨v, hv⟩ := AB ({ z with wa := z.wa - 1 } : Pt);have P3 : Ae y3 w.heap.size v := by rw [hv]; exact P3
   replace hv : Hid _ := hv;obtain ⟨⟨p0, p1, p2, p3, p4, p5, p6, p7, p8, p9, p10⟩, pf⟩ := P3;go_wp2_with fail
   go_at_call 152
   refine (Ei v y3).mono ?_;rintro e w4 ⟨rfl, k4⟩;have B4 := AA B3 k4;have S4 : w.heap.size + 1 < y3.heap.size := R3.lt;have R4 := R3.below k4 S4;obtain ⟨o, ho⟩ : ∃ o : Pt, o = { v with op := BC v.ro v.wa } := ⟨_, rfl⟩;have ho0 : Value.agg (pc o) = Value.agg #[.bool v.up, .bool v.has, ji v.r, ji v.c, ji v.b, ji v.p, ji v.h, ji v.l, ji v.ro, ji v.wa, .bool (BC v.ro v.wa)] := by rw [ho]
   rw [← ho0];have hT : Hid (t = o) := by unfold Hid; rw [htr.out, ho]; rw [hv.out]; unfold Dy; rw [if_pos hcc.out]
  rotate_left;focus
   have d0 : decide (0 < z.wa) = false := decide_eq_false h0;have hcc : Hid (¬ ((z.ro = 1 ∨ z.ro = 2) ∧ 0 < z.wa)) := fun e => h0 e.2
   replace h1 : Hid _ := h1;replace h0 : Hid _ := h0;go_upto_region 4 with fail
   go_wp2_with fail
   go_at_call 152
   refine (Ei z y2).mono ?_;rintro e w4 ⟨rfl, k4⟩;have B4 := AA B2 k4;have S4 : w.heap.size + 1 < y2.heap.size := R2.lt;have R4 := R2.below k4 S4;obtain ⟨o, ho⟩ : ∃ o : Pt, o = { z with op := BC z.ro z.wa } := ⟨_, rfl⟩;have ho0 : Value.agg (pc o) = Value.agg #[.bool z.up, .bool z.has, ji z.r, ji z.c, ji z.b, ji z.p, ji z.h, ji z.l, ji z.ro, ji z.wa, .bool (BC z.ro z.wa)] := by rw [ho]
   rw [← ho0];have hT : Hid (t = o) := by unfold Hid; rw [htr.out, ho]; unfold Dy; rw [if_neg hcc.out]
  rotate_left;all_goals
   clear ho ho0 k4 p0 p1 p2 p3 p4 p5 p6 p7 p8 p9 p10 pf;have RZ := (((((((((((R4.set0 o.up).set1 o.has).set2 o.r).set3 o.c).set4 o.b).set5 o.p).set6 o.h).set7 o.l).set8 o.ro).set9 o.wa).set10 o.op);have BZ := (((((((((((B4.setCell (p := ⟨w.heap.size + 1, 0, none⟩) (by show _ ≤ w.heap.size + 1; omega) (.bool o.up)).setCell (p := ⟨w.heap.size + 1, 1, none⟩) (by show _ ≤ w.heap.size + 1; omega) (.bool o.has)).setCell (p := ⟨w.heap.size + 1, 2, none⟩) (by show _ ≤ w.heap.size + 1; omega) (ji o.r)).setCell (p := ⟨w.heap.size + 1, 3, none⟩) (by show _ ≤ w.heap.size + 1; omega) (ji o.c)).setCell (p := ⟨w.heap.size + 1, 4, none⟩) (by show _ ≤ w.heap.size + 1; omega) (ji o.b)).setCell (p := ⟨w.heap.size + 1, 5, none⟩) (by show _ ≤ w.heap.size + 1; omega) (ji o.p)).setCell (p := ⟨w.heap.size + 1, 6, none⟩) (by show _ ≤ w.heap.size + 1; omega) (ji o.h)).setCell (p := ⟨w.heap.size + 1, 7, none⟩) (by show _ ≤ w.heap.size + 1; omega) (ji o.l)).setCell (p := ⟨w.heap.size + 1, 8, none⟩) (by show _ ≤ w.heap.size + 1; omega) (ji o.ro)).setCell (p := ⟨w.heap.size + 1, 9, none⟩) (by show _ ≤ w.heap.size + 1; omega) (ji o.wa)).setCell (p := ⟨w.heap.size + 1, 10, none⟩) (by show _ ≤ w.heap.size + 1; omega) (.bool o.op));obtain ⟨⟨z0, z1, z2, z3, z4, z5, z6, z7, z8, z9, z10⟩, _⟩ := RZ;obtain ⟨⟨r0, r1, r2, r3, r4, r5, r6, r7, r8, r9, r10⟩, rf⟩ := R4;go_wp2
   refine bodyPost_ret (v := .agg (pc o)) (by simp [results, results125, go_sem, *]) rfl ⟨by rw [hT.out], BZ⟩
 have d1 : (z.ro == 1) = false := by simpa using h1
 by_cases h2 : z.ro = 2
 ·
  have d2 : (z.ro == 2) = true := by simpa using h2
  by_cases h0 : 0 < z.wa
  focus
   have d0 : decide (0 < z.wa) = true := decide_eq_true h0;have hcc : Hid ((z.ro = 1 ∨ z.ro = 2) ∧ 0 < z.wa) := ⟨.inr h2, h0⟩;replace h2 : Hid _ := h2;replace h1 : Hid _ := h1;have P3 := P2.set9 (z.wa - 1);have B3 := B2.setCell (p := (ja w.heap.size 9)) (Nat.le_refl w.heap.size) (ji (z.wa - 1));have R3 := R2.other (q' := w.heap.size) (i := 9) (v := ji (z.wa - 1)) (by omega);obtain ⟨y3, hy3⟩ := AB (y2.setCell (ja w.heap.size 9) (ji (z.wa - 1)));rw [← hy3] at P3 B3 R3;go_upto_region 4 with fail
   rw [← hy3];clear hy3 p0 p1 p2 p3 p4 p5 p6 p7 p8 p9 p10 pf P2 B2 R2;obtain ⟨v, hv⟩ := AB ({ z with wa := z.wa - 1 } : Pt);have P3 : Ae y3 w.heap.size v := by rw [hv]; exact P3
   replace hv : Hid _ := hv;obtain ⟨⟨p0, p1, p2, p3, p4, p5, p6, p7, p8, p9, p10⟩, pf⟩ := P3;go_wp2_with fail
   go_at_call 152
   refine (Ei v y3).mono ?_;rintro e w4 ⟨rfl, k4⟩;have B4 := AA B3 k4;have S4 : w.heap.size + 1 < y3.heap.size := R3.lt;have R4 := R3.below k4 S4;obtain ⟨o, ho⟩ : ∃ o : Pt, o = { v with op := BC v.ro v.wa } := ⟨_, rfl⟩;have ho0 : Value.agg (pc o) = Value.agg #[.bool v.up, .bool v.has, ji v.r, ji v.c, ji v.b, ji v.p, ji v.h, ji v.l, ji v.ro, ji v.wa, .bool (BC v.ro v.wa)] := by rw [ho]
   rw [← ho0];have hT : Hid (t = o) := by unfold Hid; rw [htr.out, ho]; rw [hv.out]; unfold Dy; rw [if_pos hcc.out]
  rotate_left;focus
   have d0 : decide (0 < z.wa) = false := decide_eq_false h0;have hcc : Hid (¬ ((z.ro = 1 ∨ z.ro = 2) ∧ 0 < z.wa)) := fun e => h0 e.2
   replace h2 : Hid _ := h2;replace h1 : Hid _ := h1;replace h0 : Hid _ := h0;go_upto_region 4 with fail
   go_wp2_with fail
   go_at_call 152
   refine (Ei z y2).mono ?_;rintro e w4 ⟨rfl, k4⟩;have B4 := AA B2 k4;have S4 : w.heap.size + 1 < y2.heap.size := R2.lt;have R4 := R2.below k4 S4;obtain ⟨o, ho⟩ : ∃ o : Pt, o = { z with op := BC z.ro z.wa } := ⟨_, rfl⟩;have ho0 : Value.agg (pc o) = Value.agg #[.bool z.up, .bool z.has, ji z.r, ji z.c, ji z.b, ji z.p, ji z.h, ji z.l, ji z.ro, ji z.wa, .bool (BC z.ro z.wa)] := by rw [ho]
   rw [← ho0];have hT : Hid (t = o) := by unfold Hid; rw [htr.out, ho]; unfold Dy; rw [if_neg hcc.out]
  rotate_left;all_goals
   clear ho ho0 k4 p0 p1 p2 p3 p4 p5 p6 p7 p8 p9 p10 pf;have RZ := (((((((((((R4.set0 o.up).set1 o.has).set2 o.r).set3 o.c).set4 o.b).set5 o.p).set6 o.h).set7 o.l).set8 o.ro).set9 o.wa).set10 o.op);have BZ := (((((((((((B4.setCell (p := ⟨w.heap.size + 1, 0, none⟩) (by show _ ≤ w.heap.size + 1; omega) (.bool o.up)).setCell (p := ⟨w.heap.size + 1, 1, none⟩) (by show _ ≤ w.heap.size + 1; omega) (.bool o.has)).setCell (p := ⟨w.heap.size + 1, 2, none⟩) (by show _ ≤ w.heap.size + 1; omega) (ji o.r)).setCell (p := ⟨w.heap.size + 1, 3, none⟩) (by show _ ≤ w.heap.size + 1; omega) (ji o.c)).setCell (p := ⟨w.heap.size + 1, 4, none⟩) (by show _ ≤ w.heap.size + 1; omega) (ji o.b)).setCell (p := ⟨w.heap.size + 1, 5, none⟩) (by show _ ≤ w.heap.size + 1; omega) (ji o.p)).setCell (p := ⟨w.heap.size + 1, 6, none⟩) (by show _ ≤ w.heap.size + 1; omega) (ji o.h)).setCell (p := ⟨w.heap.size + 1, 7, none⟩) (by show _ ≤ w.heap.size + 1; omega) (ji o.l)).setCell (p := ⟨w.heap.size + 1, 8, none⟩) (by show _ ≤ w.heap.size + 1; omega) (ji o.ro)).setCell (p := ⟨w.heap.size + 1, 9, none⟩) (by show _ ≤ w.heap.size + 1; omega) (ji o.wa)).setCell (p := ⟨w.heap.size + 1, 10, none⟩) (by show _ ≤ w.heap.size + 1; omega) (.bool o.op));obtain ⟨⟨z0, z1, z2, z3, z4, z5, z6, z7, z8, z9, z10⟩, _⟩ := RZ;obtain ⟨⟨r0, r1, r2, r3, r4, r5, r6, r7, r8, r9, r10⟩, rf⟩ := R4;go_wp2
   refine bodyPost_ret (v := .agg (pc o)) (by simp [results, results125, go_sem, *]) rfl ⟨by rw [hT.out], BZ⟩
 have d2 : (z.ro == 2) = false := by simpa using h2
 have hcc : Hid (¬ ((z.ro = 1 ∨ z.ro = 2) ∧ 0 < z.wa)) := fun e => by rcases e.1 with q | q; exact h1 q; exact h2 q
 replace h1 : Hid _ := h1;replace h2 : Hid _ := h2;go_upto_region 4 with fail
 go_wp2_with fail
 go_at_call 152
 refine (Ei z y2).mono ?_;rintro e w4 ⟨rfl, k4⟩;have B4 := AA B2 k4;have S4 : w.heap.size + 1 < y2.heap.size := R2.lt;have R4 := R2.below k4 S4;obtain ⟨o, ho⟩ : ∃ o : Pt, o = { z with op := BC z.ro z.wa } := ⟨_, rfl⟩;have ho0 : Value.agg (pc o) = Value.agg #[.bool z.up, .bool z.has, ji z.r, ji z.c, ji z.b, ji z.p, ji z.h, ji z.l, ji z.ro, ji z.wa, .bool (BC z.ro z.wa)] := by rw [ho]
 rw [← ho0];have hT : Hid (t = o) := by unfold Hid; rw [htr.out, ho]; unfold Dy; rw [if_neg hcc.out]
 clear ho ho0 k4 p0 p1 p2 p3 p4 p5 p6 p7 p8 p9 p10 pf;have RZ := (((((((((((R4.set0 o.up).set1 o.has).set2 o.r).set3 o.c).set4 o.b).set5 o.p).set6 o.h).set7 o.l).set8 o.ro).set9 o.wa).set10 o.op);have BZ := (((((((((((B4.setCell (p := ⟨w.heap.size + 1, 0, none⟩) (by show _ ≤ w.heap.size + 1; omega) (.bool o.up)).setCell (p := ⟨w.heap.size + 1, 1, none⟩) (by show _ ≤ w.heap.size + 1; omega) (.bool o.has)).setCell (p := ⟨w.heap.size + 1, 2, none⟩) (by show _ ≤ w.heap.size + 1; omega) (ji o.r)).setCell (p := ⟨w.heap.size + 1, 3, none⟩) (by show _ ≤ w.heap.size + 1; omega) (ji o.c)).setCell (p := ⟨w.heap.size + 1, 4, none⟩) (by show _ ≤ w.heap.size + 1; omega) (ji o.b)).setCell (p := ⟨w.heap.size + 1, 5, none⟩) (by show _ ≤ w.heap.size + 1; omega) (ji o.p)).setCell (p := ⟨w.heap.size + 1, 6, none⟩) (by show _ ≤ w.heap.size + 1; omega) (ji o.h)).setCell (p := ⟨w.heap.size + 1, 7, none⟩) (by show _ ≤ w.heap.size + 1; omega) (ji o.l)).setCell (p := ⟨w.heap.size + 1, 8, none⟩) (by show _ ≤ w.heap.size + 1; omega) (ji o.ro)).setCell (p := ⟨w.heap.size + 1, 9, none⟩) (by show _ ≤ w.heap.size + 1; omega) (ji o.wa)).setCell (p := ⟨w.heap.size + 1, 10, none⟩) (by show _ ≤ w.heap.size + 1; omega) (.bool o.op));obtain ⟨⟨z0, z1, z2, z3, z4, z5, z6, z7, z8, z9, z10⟩, _⟩ := RZ;obtain ⟨⟨r0, r1, r2, r3, r4, r5, r6, r7, r8, r9, r10⟩, rf⟩ := R4;go_wp2
 refine bodyPost_ret (v := .agg (pc o)) (by simp [results, results125, go_sem, *]) rfl ⟨by rw [hT.out], BZ⟩
end Go.Proofs.YthgcbihhdbpbdaaGreat
