import Derived.Test.YtjmnaeeknomiaaaGreatDoorRM3
import Derived.Test.YtjmnaeeknomiaaaGreatDoorRM20
import Derived.Test.YtjmnaeeknomiaaaGreatDoorRM16
namespace Go.Proofs.YtjmnaeeknomiaaaGreatDoor
open Go.ChangeShapes Go.WideShapes Go.ChangeAt Go.RowKit
open Go.ChangeMaps (open_string shut_string)
set_option linter.unusedVariables false
set_option maxRecDepth 100000
set_option maxHeartbeats 32000000
set_option linter.unusedSimpArgs false
open Go.Proofs.Tryz
attribute [local go_sem] ji ja
theorem Gx {cb : Nat} {ad : Option Addr} {len cap : Nat} {f : Nat → Int} (w : World) (hs : At w cb ad len cap f) (hcb : cb < w.heap.size) : Calls prog 38 #[.pointer (some (ja cb 0))] w fun e w' => Ii w cb ad len cap f e w' := by
 obtain ⟨R, hRe⟩ := AC w.heap.size;have hR : w.heap.size ≤ R := by omega
 have hRc : R ≠ cb := by omega
 obtain ⟨x0, hx0⟩ := AC (w.alloc (Obj.cells #[ji 0, ji 0, ji 0, ji 0, ji 0, ji 0, ji 0, .bool false] 27));have D0 : DV w cb ad len cap x0 := by rw [hx0]; exact (DV.start hs).alloc _
 have Z0 : CT x0 R ⟨0, 0, 0, 0, 0, 0, 0, false⟩ := by rw [hx0, hRe]; exact ⟨Bh.new w _ ⟨0, 0, 0, 0, 0, 0, 0, false⟩, fun i => by simp [go_sem]⟩
 go_enter func38, ntmps38
 go_wp2_with fail
 go_at_call 45
 rw [← hx0, ← hRe];clear hx0 hRe;refine (Kx x0 (D0.src hs) D0.cur.lt).mono ?_;rintro e y1 ⟨⟨k, q, r, c, b, p, h, up⟩, rfl, s1, g1, b8⟩;have D1 := D0.step s1 g1;have Z1 := Z0.grown g1 hRc;unfold B8 at b8;dsimp only at b8 ⊢;obtain ⟨b1, b2, b3, b4, b5, b6⟩ := b8;obtain ⟨Q, hQ⟩ := AC y1.heap.size;obtain ⟨y2, hy2, k2⟩ := AM y1 (Obj.cells #[ji k, ji q, ji r, ji c, ji b, ji p, ji h, .bool up] 27);have Q2 : CT y2 Q ⟨k, q, r, c, b, p, h, up⟩ := by rw [hy2, hQ]; exact ⟨Bh.new y1 _ ⟨k, q, r, c, b, p, h, up⟩, fun i => by simp [go_sem]⟩
 have D2 := D1.later8 k2;have Z2 : CT y2 R ⟨0, 0, 0, 0, 0, 0, 0, false⟩ := Z1.keep (k2.block _ Z1.at_.lt);have lQ : w.heap.size ≤ Q := by rw [hQ]; exact D1.gr.size
 have lQR : Q ≠ R := by have := Z1.at_.lt; omega
 have lQc : Q ≠ cb := by omega
 go_wp2_with fail
 go_at_call 56
 rw [← hy2, ← hQ];clear hy2 hQ k2 D0 Z0 Z1 D1 s1 g1;refine (BD (D2.src hs) 12 (by decide) (by decide)).mono ?_;rintro e y3 ⟨t, rfl, t0_, t1_, s3, g3⟩;have D3 := D2.step s3 g3;have Q3 := Q2.grown g3 lQc;have Z3 := Z2.grown g3 hRc;clear D2 Q2 Z2 s3 g3;by_cases e0 : t = 0
 ·
  subst e0;go_wp2_with fail
  go_at_call 56
  refine (BD (D3.src hs) 6 (by decide) (by decide)).mono ?_;rintro e y4 ⟨n, rfl, n0, n1, s4, g4⟩;have D4 := D3.step s4 g4;have Q4 := Q3.grown g4 lQc;have Z4 := Z3.grown g4 hRc;clear D3 Q3 Z3 s4 g4;obtain ⟨y5, hst⟩ := AC (y4.setCell (ja Q 0) (ji (n - 1)));have D5 : DV w cb ad len cap y5 := by rw [hst]; exact D4.set (N := Q) (i := 0) (by omega) hcb _
  have QN : CT y5 Q ⟨(n - 1), q, r, c, b, p, h, up⟩ := by rw [hst]; exact ⟨⟨Al Q4.at_.c0, (AB (by decide)).trans Q4.at_.c1, (AB (by decide)).trans Q4.at_.c2, (AB (by decide)).trans Q4.at_.c3, (AB (by decide)).trans Q4.at_.c4, (AB (by decide)).trans Q4.at_.c5, (AB (by decide)).trans Q4.at_.c6, (AB (by decide)).trans Q4.at_.c7⟩, fun j => by rw [World.frozen?_setCell]; exact Q4.fr j⟩
  have ZZ : CT y5 R ⟨0, 0, 0, 0, 0, 0, 0, false⟩ := by rw [hst]; exact Z4.keep (AE (by show R ≠ Q; omega))
  have cq := Q4;obtain ⟨⟨e0, e1, e2, e3, e4, e5, e6, e7⟩, ef⟩ := cq;have fi := ef 0;go_upto_region 11 with fail
  rw [← hst];clear hst e0 e1 e2 e3 e4 e5 e6 e7 ef fi;have DZ := ((((((((D5.set (N := R) (i := 0) (by omega) hcb (ji (n - 1))).set (N := R) (i := 1) (by omega) hcb (ji q)).set (N := R) (i := 2) (by omega) hcb (ji r)).set (N := R) (i := 3) (by omega) hcb (ji c)).set (N := R) (i := 4) (by omega) hcb (ji b)).set (N := R) (i := 5) (by omega) hcb (ji p)).set (N := R) (i := 6) (by omega) hcb (ji h)).set (N := R) (i := 7) (by omega) hcb (.bool up));obtain ⟨⟨q0, q1, q2, q3, q4, q5, q6, q7⟩, qf⟩ := QN;obtain ⟨⟨z0, z1, z2, z3, z4, z5, z6, z7⟩, zf⟩ := ZZ;have f0 := zf 0;have f1 := zf 1;have f2 := zf 2;have f3 := zf 3;have f4 := zf 4;have f5 := zf 5;have f6 := zf 6;have f7 := zf 7;go_wp2
  refine bodyPost_ret (v := .agg #[ji (n - 1), ji q, ji r, ji c, ji b, ji p, ji h, .bool up]) (by simp [results, results38, go_sem, *]) rfl ⟨⟨(n - 1), q, r, c, b, p, h, up⟩, rfl, DZ.src hs, DZ.gr, by (unfold B8; simp only; omega)⟩
 have d0 : (t == 0) = false := by simpa using e0
 by_cases e1 : t = 1
 ·
  subst e1;obtain ⟨y4z, hy4z, kz⟩ := AM y3 (Obj.cells #[ji (-1), ji 3, ji 4] 3);have hpk : ∀ i, i < 3 → ∃ y, y4z.cell? (ja y3.heap.size i) = some (ji y) ∧ (fun y : Int => -1 ≤ y ∧ y ≤ 9) y := fun i hi => by
   rw [hy4z];rcases (by omega : i = 0 ∨ i = 1 ∨ i = 2) with rfl | rfl | rfl
   ·
    exact ⟨(-1 : Int), by simp [go_sem], by constructor <;> decide⟩
   ·
    exact ⟨(3 : Int), by simp [go_sem], by constructor <;> decide⟩
   exact ⟨(4 : Int), by simp [go_sem], by constructor <;> decide⟩
  have D3z := D3.later8 kz;have hcz : y3.heap.size ≠ cb := by have := D3.cur.lt; omega
  have Q3z : CT y4z Q _ := Q3.keep (kz.block _ Q3.at_.lt);have Z3z : CT y4z R _ := Z3.keep (kz.block _ Z3.at_.lt);go_wp2_with fail
  go_at_call 47
  rw [← hy4z];clear hy4z kz;refine (Dq (D3z.src hs) (fun y : Int => -1 ≤ y ∧ y ≤ 9) y3.heap.size 3 3 hcz (by decide) (by decide) hpk).mono ?_;rintro e y4 ⟨n, rfl, hn, s_, g_⟩;have D3p := D3z.step s_ g_;have Q4 := Q3z.grown g_ lQc;have Z4 := Z3z.grown g_ hRc;obtain ⟨n0, n1⟩ := hn;clear D3 D3z Q3 Q3z Z3 Z3z s_ g_ hpk hcz;obtain ⟨y5, hst⟩ := AC (y4.setCell (ja Q 1) (ji n));have D5 : DV w cb ad len cap y5 := by rw [hst]; exact D3p.set (N := Q) (i := 1) (by omega) hcb _
  have QN : CT y5 Q ⟨k, n, r, c, b, p, h, up⟩ := by rw [hst]; exact ⟨⟨(AB (by decide)).trans Q4.at_.c0, Al Q4.at_.c1, (AB (by decide)).trans Q4.at_.c2, (AB (by decide)).trans Q4.at_.c3, (AB (by decide)).trans Q4.at_.c4, (AB (by decide)).trans Q4.at_.c5, (AB (by decide)).trans Q4.at_.c6, (AB (by decide)).trans Q4.at_.c7⟩, fun j => by rw [World.frozen?_setCell]; exact Q4.fr j⟩
  have ZZ : CT y5 R ⟨0, 0, 0, 0, 0, 0, 0, false⟩ := by rw [hst]; exact Z4.keep (AE (by show R ≠ Q; omega))
  have cq := Q4;obtain ⟨⟨e0, e1, e2, e3, e4, e5, e6, e7⟩, ef⟩ := cq;have fi := ef 1;go_upto_region 11 with fail
  rw [← hst];clear hst e0 e1 e2 e3 e4 e5 e6 e7 ef fi;have DZ := ((((((((D5.set (N := R) (i := 0) (by omega) hcb (ji k)).set (N := R) (i := 1) (by omega) hcb (ji n)).set (N := R) (i := 2) (by omega) hcb (ji r)).set (N := R) (i := 3) (by omega) hcb (ji c)).set (N := R) (i := 4) (by omega) hcb (ji b)).set (N := R) (i := 5) (by omega) hcb (ji p)).set (N := R) (i := 6) (by omega) hcb (ji h)).set (N := R) (i := 7) (by omega) hcb (.bool up));obtain ⟨⟨q0, q1, q2, q3, q4, q5, q6, q7⟩, qf⟩ := QN;obtain ⟨⟨z0, z1, z2, z3, z4, z5, z6, z7⟩, zf⟩ := ZZ;have f0 := zf 0;have f1 := zf 1;have f2 := zf 2;have f3 := zf 3;have f4 := zf 4;have f5 := zf 5;have f6 := zf 6;have f7 := zf 7;go_wp2
  refine bodyPost_ret (v := .agg #[ji k, ji n, ji r, ji c, ji b, ji p, ji h, .bool up]) (by simp [results, results38, go_sem, *]) rfl ⟨⟨k, n, r, c, b, p, h, up⟩, rfl, DZ.src hs, DZ.gr, by (unfold B8; simp only; omega)⟩
 have d1 : (t == 1) = false := by simpa using e1
 by_cases e2 : t = 2
 ·
  subst e2;go_wp2_with fail
  go_at_call 78
  refine (IP y3 (D3.src hs) D3.cur.lt).mono ?_;rintro e y4 ⟨r2, c2, b2', p2, rfl, hV4, s4, g4⟩;have D4 := D3.step s4 g4;have Q4 := Q3.grown g4 lQc;have Z4 := Z3.grown g4 hRc;clear D3 Q3 Z3 s4 g4;obtain ⟨y5, hst⟩ := AC ((((y4.setCell (ja Q 2) (ji r2)).setCell (ja Q 3) (ji c2)).setCell (ja Q 4) (ji b2')).setCell (ja Q 5) (ji p2));have D5 : DV w cb ad len cap y5 := by rw [hst]; exact ((((D4.set (N := Q) (i := 2) (by omega) hcb (ji r2)).set (N := Q) (i := 3) (by omega) hcb (ji c2)).set (N := Q) (i := 4) (by omega) hcb (ji b2')).set (N := Q) (i := 5) (by omega) hcb (ji p2))
  have QN : CT y5 Q ⟨k, q, r2, c2, b2', p2, h, up⟩ := by rw [hst]; obtain ⟨⟨e0, e1, e2, e3, e4, e5, e6, e7⟩, ef⟩ := Q4; refine ⟨⟨?_, ?_, ?_, ?_, ?_, ?_, ?_, ?_⟩, fun j => ?_⟩ <;> simp [go_sem, *]
  have ZZ : CT y5 R ⟨0, 0, 0, 0, 0, 0, 0, false⟩ := by rw [hst]; exact Z4.keep (by rw [AE (by show R ≠ Q; omega), AE (by show R ≠ Q; omega), AE (by show R ≠ Q; omega), AE (by show R ≠ Q; omega)])
  have cq := Q4;obtain ⟨⟨e0, e1, e2, e3, e4, e5, e6, e7⟩, ef⟩ := cq;have fi2 := ef 2;have fi3 := ef 3;have fi4 := ef 4;have fi5 := ef 5;go_upto_region 11 with fail
  rw [← hst];clear hst e0 e1 e2 e3 e4 e5 e6 e7 ef fi2 fi3 fi4 fi5;have DZ := ((((((((D5.set (N := R) (i := 0) (by omega) hcb (ji k)).set (N := R) (i := 1) (by omega) hcb (ji q)).set (N := R) (i := 2) (by omega) hcb (ji r2)).set (N := R) (i := 3) (by omega) hcb (ji c2)).set (N := R) (i := 4) (by omega) hcb (ji b2')).set (N := R) (i := 5) (by omega) hcb (ji p2)).set (N := R) (i := 6) (by omega) hcb (ji h)).set (N := R) (i := 7) (by omega) hcb (.bool up));obtain ⟨⟨q0, q1, q2, q3, q4, q5, q6, q7⟩, qf⟩ := QN;obtain ⟨⟨z0, z1, z2, z3, z4, z5, z6, z7⟩, zf⟩ := ZZ;have f0 := zf 0;have f1 := zf 1;have f2 := zf 2;have f3 := zf 3;have f4 := zf 4;have f5 := zf 5;have f6 := zf 6;have f7 := zf 7;go_wp2
  refine bodyPost_ret (v := .agg #[ji k, ji q, ji r2, ji c2, ji b2', ji p2, ji h, .bool up]) (by simp [results, results38, go_sem, *]) rfl ⟨⟨k, q, r2, c2, b2', p2, h, up⟩, rfl, DZ.src hs, DZ.gr, by (unfold V4 at hV4; unfold B8; simp only; omega)⟩
 have d2 : (t == 2) = false := by simpa using e2
 by_cases e3 : t = 3
 ·
  subst e3;obtain ⟨y4z, hy4z, kz⟩ := AM y3 (Obj.cells #[ji (-1), ji 8, ji 9] 3);have hpk : ∀ i, i < 3 → ∃ y, y4z.cell? (ja y3.heap.size i) = some (ji y) ∧ (fun y : Int => -1 ≤ y ∧ y ≤ 9) y := fun i hi => by
   rw [hy4z];rcases (by omega : i = 0 ∨ i = 1 ∨ i = 2) with rfl | rfl | rfl
   ·
    exact ⟨(-1 : Int), by simp [go_sem], by constructor <;> decide⟩
   ·
    exact ⟨(8 : Int), by simp [go_sem], by constructor <;> decide⟩
   exact ⟨(9 : Int), by simp [go_sem], by constructor <;> decide⟩
  have D3z := D3.later8 kz;have hcz : y3.heap.size ≠ cb := by have := D3.cur.lt; omega
  have Q3z : CT y4z Q _ := Q3.keep (kz.block _ Q3.at_.lt);have Z3z : CT y4z R _ := Z3.keep (kz.block _ Z3.at_.lt);go_wp2_with fail
  go_at_call 47
  rw [← hy4z];clear hy4z kz;refine (Dq (D3z.src hs) (fun y : Int => -1 ≤ y ∧ y ≤ 9) y3.heap.size 3 3 hcz (by decide) (by decide) hpk).mono ?_;rintro e y4 ⟨n, rfl, hn, s_, g_⟩;have D3p := D3z.step s_ g_;have Q4 := Q3z.grown g_ lQc;have Z4 := Z3z.grown g_ hRc;obtain ⟨n0, n1⟩ := hn;clear D3 D3z Q3 Q3z Z3 Z3z s_ g_ hpk hcz;obtain ⟨y5, hst⟩ := AC (y4.setCell (ja Q 6) (ji n));have D5 : DV w cb ad len cap y5 := by rw [hst]; exact D3p.set (N := Q) (i := 6) (by omega) hcb _
  have QN : CT y5 Q ⟨k, q, r, c, b, p, n, up⟩ := by rw [hst]; exact ⟨⟨(AB (by decide)).trans Q4.at_.c0, (AB (by decide)).trans Q4.at_.c1, (AB (by decide)).trans Q4.at_.c2, (AB (by decide)).trans Q4.at_.c3, (AB (by decide)).trans Q4.at_.c4, (AB (by decide)).trans Q4.at_.c5, Al Q4.at_.c6, (AB (by decide)).trans Q4.at_.c7⟩, fun j => by rw [World.frozen?_setCell]; exact Q4.fr j⟩
  have ZZ : CT y5 R ⟨0, 0, 0, 0, 0, 0, 0, false⟩ := by rw [hst]; exact Z4.keep (AE (by show R ≠ Q; omega))
  have cq := Q4;obtain ⟨⟨e0, e1, e2, e3, e4, e5, e6, e7⟩, ef⟩ := cq;have fi := ef 6;go_upto_region 11 with fail
  rw [← hst];clear hst e0 e1 e2 e3 e4 e5 e6 e7 ef fi;have DZ := ((((((((D5.set (N := R) (i := 0) (by omega) hcb (ji k)).set (N := R) (i := 1) (by omega) hcb (ji q)).set (N := R) (i := 2) (by omega) hcb (ji r)).set (N := R) (i := 3) (by omega) hcb (ji c)).set (N := R) (i := 4) (by omega) hcb (ji b)).set (N := R) (i := 5) (by omega) hcb (ji p)).set (N := R) (i := 6) (by omega) hcb (ji n)).set (N := R) (i := 7) (by omega) hcb (.bool up));obtain ⟨⟨q0, q1, q2, q3, q4, q5, q6, q7⟩, qf⟩ := QN;obtain ⟨⟨z0, z1, z2, z3, z4, z5, z6, z7⟩, zf⟩ := ZZ;have f0 := zf 0;have f1 := zf 1;have f2 := zf 2;have f3 := zf 3;have f4 := zf 4;have f5 := zf 5;have f6 := zf 6;have f7 := zf 7;go_wp2
  refine bodyPost_ret (v := .agg #[ji k, ji q, ji r, ji c, ji b, ji p, ji n, .bool up]) (by simp [results, results38, go_sem, *]) rfl ⟨⟨k, q, r, c, b, p, n, up⟩, rfl, DZ.src hs, DZ.gr, by (unfold B8; simp only; omega)⟩
 have d3 : (t == 3) = false := by simpa using e3
 have ZZ := Z3;have DZ := ((((((((D3.set (N := R) (i := 0) (by omega) hcb (ji k)).set (N := R) (i := 1) (by omega) hcb (ji q)).set (N := R) (i := 2) (by omega) hcb (ji r)).set (N := R) (i := 3) (by omega) hcb (ji c)).set (N := R) (i := 4) (by omega) hcb (ji b)).set (N := R) (i := 5) (by omega) hcb (ji p)).set (N := R) (i := 6) (by omega) hcb (ji h)).set (N := R) (i := 7) (by omega) hcb (.bool up));obtain ⟨⟨q0, q1, q2, q3, q4, q5, q6, q7⟩, qf⟩ := Q3;obtain ⟨⟨z0, z1, z2, z3, z4, z5, z6, z7⟩, zf⟩ := ZZ;have f0 := zf 0;have f1 := zf 1;have f2 := zf 2;have f3 := zf 3;have f4 := zf 4;have f5 := zf 5;have f6 := zf 6;have f7 := zf 7;go_wp2
 refine bodyPost_ret (v := .agg #[ji k, ji q, ji r, ji c, ji b, ji p, ji h, .bool up]) (by simp [results, results38, go_sem, *]) rfl ⟨⟨k, q, r, c, b, p, h, up⟩, rfl, DZ.src hs, DZ.gr, by (unfold B8; simp only; omega)⟩
attribute [local go_sem] bc mc
def Cs (m : Mi) : Prop := (-2 ≤ m.li ∧ m.li ≤ 200000) ∧ (-2 ≤ m.ep ∧ m.ep ≤ 200000) ∧ (-2 ≤ m.sd ∧ m.sd ≤ 200000) ∧ (-2 ≤ m.ac ∧ m.ac ≤ 200000) ∧ (-2 ≤ m.al ∧ m.al ≤ 200000)
theorem IJ {m : Mi} (h : BM m = true) : Cs m := by
 obtain ⟨h1, h2, h3, h4, h5, h6, _⟩ := FT.1 h;unfold DN at h4;simp only [CK, Bool.and_eq_true, decide_eq_true_eq] at h1 h2 h3 h4;unfold Cs;omega
def Lb (w : World) (cb : Nat) (ad : Option Addr) (len cap : Nat) (f : Nat → Int) (e : Ending) (w' : World) : Prop :=
 ∃ x : AF, e = .returned (.agg (bc x)) ∧ Ck w' x ∧ x.two.length = 2 ∧ (∀ i, i < 2 → ((x.two.getD i AD.nil).m.lg.length ≤ 60 ∧ Cs (x.two.getD i AD.nil).m) ∧ ((x.two.getD i AD.nil).ad = none → (x.two.getD i AD.nil).cap = 0)) ∧ (∀ a, x.aT = some a → w.heap.size ≤ a.block) ∧ (∀ i a, i < 2 → (x.two.getD i AD.nil).ad = some a → w.heap.size ≤ a.block) ∧ At w' cb ad len cap f ∧ w.grownBy w' (some cb)
def Gc : Prop := ∀ {cb : Nat} {ad : Option Addr} {len cap : Nat} {f : Nat → Int} (w : World) (_ : At w cb ad len cap f) (_ : cb < w.heap.size), Calls prog 103 #[.pointer (some (ja cb 0))] w fun e w' => Lb w cb ad len cap f e w'
def Ih (n : Nat) (w : World) (cb : Nat) (ad : Option Addr) (len cap : Nat) (f : Nat → Int) (e : Ending) (w' : World) : Prop :=
 ∃ (m : Mi) (a : Option Addr) (c : Nat), e = .returned (.agg (mc m a c)) ∧ (m.lg.length ≤ n ∧ Cs m) ∧ AA AW 8 27 w.heap.size w' (.slice a m.lg.length c) m.lg ∧ At w' cb ad len cap f ∧ w.grownBy w' (some cb)
theorem Kv (hR : Gc) {cb : Nat} {ad : Option Addr} {len cap : Nat} {f : Nat → Int} (w : World) (hs : At w cb ad len cap f) (hcb : cb < w.heap.size) : Calls prog 102 #[.pointer (some (ja cb 0))] w fun e w' => Ih 60 w cb ad len cap f e w' := by
 have hfld : ∀ (i_ p_ r0_ r1_ r2_ : Int) (t_ n_ g_ l_ s_ : Value) (w_ : World), (Instr.field 63 (.agg #[ji i_, ji p_, ji r0_, ji r1_, ji r2_, t_, n_, g_, l_, s_]) 3).run prog w_ = .ok t_ w_ := fun _ _ _ _ _ _ _ _ _ _ _ => by kernel_rfl
 obtain ⟨y0, hy0⟩ := AC (w.alloc (Obj.cells #[.bool false, ji 0, ji 0, .slice none 0 0, ji 0, ji 0, ji 0] 54));have D0 : DV w cb ad len cap y0 := by rw [hy0]; exact (DV.start hs).alloc _
 have R0 : AQ y0 w.heap.size ⟨false, 0, 0, [], 0, 0, 0⟩ (.slice none 0 0) := by rw [hy0]; exact AQ.new w _ ⟨false, 0, 0, [], 0, 0, 0⟩ _
 have z0 := R0.lt;go_enter func102, ntmps102
 go_wp2_with fail
 go_at_call 103
 rw [← hy0];clear hy0;refine (hR y0 (D0.src hs) (by omega)).mono ?_;rintro e y1 ⟨x, rfl, V, h2, hm, loT, loL, s1, g1⟩;have D1 := D0.step s1 g1;have R1 := R0.keep (g1.block _ R0.lt (by simp; omega));have z1 := g1.size;clear D0 R0 s1 g1;have b2 := Nat.le_of_eq h2;have b2' := Nat.le_of_eq h2.symm;replace h2 : Hid _ := h2;go_wp2_with fail
 go_at_call 56
 refine (BD (D1.src hs) 2 (by decide) (by decide)).mono ?_;rintro e y2 ⟨v, rfl, v0, v1, s2, g2⟩;have D2 := D1.step s2 g2;have R2 := R1.keep (g2.block _ R1.lt (by simp; omega));have z2 := g2.size;obtain ⟨k, rfl⟩ : ∃ k : Nat, v = (k : Int) := ⟨v.toNat, by omega⟩;have hk : k < x.two.length := by omega
 have hk2 : k < 2 := by omega
 obtain ⟨d, hd⟩ : ∃ d, x.two.getD k AD.nil = d := ⟨_, rfl⟩;obtain ⟨b, off, hat, _⟩ := V.t (by omega);have hbl := loT _ hat;have hlt := V.t.lt BC (by omega) _ hat (by omega);dsimp only at hbl hlt;have ht2 := V.t.carry (w' := y2) (fun a e _ => g2.block _ (V.t.lt BC (by omega) a e (by omega)) (by have := loT a e; simp; omega));have hck : BL y2 b (off + k * 7) d := by
  rw [hat] at ht2;rw [← hd];exact CZ (ht2.at_ BC AD.nil hk)
 have hvl := (V.l k hk).carry (w' := y2) (fun a e p => g2.block _ ((V.l k hk).lt Av (by omega) a e p) (by have := loL k a hk2 e; simp; omega));have hmk := hm k hk2;rw [hd] at hvl hmk;obtain ⟨⟨hl60, hw60⟩, hn⟩ := hmk;have hcT := V.ct;clear D1 R1 s2 g2 ht2 loT loL hm V hd;rw [hat];clear hat;replace hck := hck.all;go_wp2_with fail
 go_at_call 126
 clear hck;refine (Ex d.m d.ad d.cap y2 hvl (by omega) hn).mono ?_;rintro e y3 ⟨a3, k3, rfl, O3, k_⟩;have D3 := D2.later8 k_;have R3 := R2.below k_ R2.lt;have z3 := k_.size;clear D2 R2 k_ hvl;have O4 : AA AW 8 27 w.heap.size (((((((y3.setCell (ja w.heap.size 0) (.bool d.m.up)).setCell (ja w.heap.size 1) (ji d.m.li)).setCell (ja w.heap.size 2) (ji d.m.ep)).setCell (ja w.heap.size 3) (.slice a3 d.m.lg.length k3)).setCell (ja w.heap.size 4) (ji d.m.sd)).setCell (ja w.heap.size 5) (ji d.m.ac)).setCell (ja w.heap.size 6) (ji d.m.al)) (.slice a3 d.m.lg.length k3) d.m.lg := (O3.base (by omega)).keep (fun g e => Dd y3 w.heap.size g d.m _ (by have := (O3.lt g e).1; omega));have D4 : DV w cb ad len cap (((((((y3.setCell (ja w.heap.size 0) (.bool d.m.up)).setCell (ja w.heap.size 1) (ji d.m.li)).setCell (ja w.heap.size 2) (ji d.m.ep)).setCell (ja w.heap.size 3) (.slice a3 d.m.lg.length k3)).setCell (ja w.heap.size 4) (ji d.m.sd)).setCell (ja w.heap.size 5) (ji d.m.ac)).setCell (ja w.heap.size 6) (ji d.m.al)) := ((((((D3.set (Nat.le_refl _) hcb _).set (Nat.le_refl _) hcb _).set (Nat.le_refl _) hcb _).set (Nat.le_refl _) hcb _).set (Nat.le_refl _) hcb _).set (Nat.le_refl _) hcb _).set (Nat.le_refl _) hcb _;obtain ⟨z0, z1, z2, z3, z4, z5, z6, zf⟩ := R3;have g0 := zf 0;have g1 := zf 1;have g2 := zf 2;have g3 := zf 3;have g4 := zf 4;have g5 := zf 5;have g6 := zf 6;clear zf O3;have sZ := D4.src hs;have gZ := D4.gr;clear D3 D4;go_wp2
 refine bodyPost_ret (v := .agg (mc d.m a3 k3)) (by simp [results, results102, go_sem, *]) rfl ⟨d.m, a3, k3, rfl, ⟨hl60, hw60⟩, O4, sZ, gZ⟩
def Es (b : Bool) : ByteArray := if b then ⟨#[117, 112]⟩ else ⟨#[100, 111, 119, 110]⟩
def EC (m : Mi) : List Int := [m.li, m.ep, (m.lg.length : Int), m.sd, m.ac, m.al]
def E8 (m : Mi) (k : Nat) : ByteArray := ((EC m).take k).foldl (fun s n => s ++ ⟨#[32]⟩ ++ AH n) (Es m.up)
def EX (m : Mi) : ByteArray := (EC m).foldl (fun s n => s ++ ⟨#[32]⟩ ++ AH n) (Es m.up)
def CD (m : Mi) : List Be := [.inl (Es m.up), .inr (some m.li), .inr (some m.ep), .inr (some (m.lg.length : Int)), .inr (some m.sd), .inr (some m.ac), .inr (some m.al)]
structure Eg (m : Mi) : Prop where
 li : BK m.li
 ep : BK m.ep
 sd : BK m.sd
 ac : BK m.ac
 al : BK m.al
 lg : m.lg.length ≤ 1048576
theorem IL {m : Mi} (h : Cs m) (hl : m.lg.length ≤ 1048576) : Eg m := by
 unfold Cs at h
 exact ⟨⟨by omega, by omega⟩, ⟨by omega, by omega⟩, ⟨by omega, by omega⟩, ⟨by omega, by omega⟩, ⟨by omega, by omega⟩, hl⟩
theorem Hf (b : Bool) : (Es b).size ≤ 4 := by cases b <;> decide
theorem Ia {m : Mi} (h : Eg m) {k : Nat} (hk : k < 6) : BK ((EC m).getD k 0) := by
 have hg : BK (m.lg.length : Int) := by have := h.lg; exact ⟨by omega, by omega⟩
 rcases (by omega : k = 0 ∨ k = 1 ∨ k = 2 ∨ k = 3 ∨ k = 4 ∨ k = 5) with rfl | rfl | rfl | rfl | rfl | rfl
 · exact h.li
 · exact h.ep
 · exact hg
 · exact h.sd
 · exact h.ac
 · exact h.al
theorem Hs (m : Mi) {k : Nat} (hk : k < 6) : E8 m k ++ ⟨#[32]⟩ ++ AH ((EC m).getD k 0) = E8 m (k + 1) := by
 have hl : k < (EC m).length := hk
 unfold E8
 rw [List.take_add_one, List.getElem?_eq_getElem hl, show (EC m).getD k 0 = (EC m)[k] by simp [List.getD, List.getElem?_eq_getElem hl], List.foldl_append]
 rfl
theorem Hr {m : Mi} (h : Eg m) : ∀ k, k ≤ 6 → (E8 m k).size ≤ 4 + 22 * k := by
 intro k
 induction k with
 | zero => intro _; exact Hf m.up
 | succ k ih =>
  intro hk
  have h1 := ih (by omega)
  have h2 := Ia h (show k < 6 by omega)
  have h3 := Bj h2.1 h2.2
  rw [← Hs m (by omega)]
  simp only [ByteArray.size_append]
  have e : (⟨#[32]⟩ : ByteArray).size = 1 := rfl
  omega
theorem Hq {m : Mi} (h : Eg m) : (EX m).size ≤ 136 := Hr h 6 (Nat.le_refl _)
theorem IK {m : Mi} (h : Eg m) : ∀ y ∈ CD m, pW y := by
 intro y hy
 have hg : BK (m.lg.length : Int) := by have := h.lg; exact ⟨by omega, by omega⟩
 have hu := Hf m.up
 unfold CD at hy
 simp only [List.mem_cons, List.not_mem_nil, or_false] at hy
 rcases hy with rfl | rfl | rfl | rfl | rfl | rfl | rfl
 · show (Es m.up).size ≤ 100; omega
 · exact h.li
 · exact h.ep
 · exact hg
 · exact h.sd
 · exact h.ac
 · exact h.al
theorem Kh (m : Mi) : Et (CD m) = EX m := by
 apply ByteArray.ext
 simp [Et, BI, CD, EX, EC, Ce, pE, pT, ByteArray.data_append]
theorem Iq (m : Mi) (a : Option Addr) (c : Nat) (w : World) : Calls prog 72 #[.agg #[.bool m.up, ji m.li, ji m.ep, .slice a m.lg.length c, ji m.sd, ji m.ac, ji m.al]] w fun e w' => ∃ g, e = .returned (.slice (some (ja g 0)) 7 7) ∧ AA CI 1 166 w.heap.size w' (.slice (some (ja g 0)) 7 7) (CD m) ∧ Bw w w' := by
 obtain ⟨y, hy, B⟩ := AM w (Obj.cells #[.bool m.up, ji m.li, ji m.ep, .slice a m.lg.length c, ji m.sd, ji m.ac, ji m.al] 54)
 have A : Ab y w.heap.size m (.slice a m.lg.length c) := by rw [hy]; constructor <;> simp [go_sem]
 go_enter func72, ntmps72
 go_upto_region 1 with fail
 rw [← hy]
 clear hy
 refine An (fun Y => Bw y Y) fun u0 hb0 => ?_
 refine tw 0 3 (.pointer (some (ja w.heap.size 0))) ?_
 refine tw 1 4 (.bool m.up) ?_ (hy := by intro Y hSw; have X := (A.below hSw A.lt).all; go_simp)
 refine tw 4 7 (.pointer (some (ja w.heap.size 1))) ?_
 refine tw 5 8 (ji m.li) ?_ (hy := by intro Y hSw; have X := (A.below hSw A.lt).all; go_simp)
 refine tw 6 9 (.iface 115 (ji m.li)) ?_
 refine tw 7 10 (.pointer (some (ja w.heap.size 2))) ?_
 refine tw 8 11 (ji m.ep) ?_ (hy := by intro Y hSw; have X := (A.below hSw A.lt).all; go_simp)
 refine tw 9 12 (.iface 115 (ji m.ep)) ?_
 refine tw 10 13 (.pointer (some (ja w.heap.size 3))) ?_
 refine tw 11 14 (.slice a m.lg.length c) ?_ (hy := by intro Y hSw; have X := (A.below hSw A.lt).all; go_simp)
 refine tw 12 15 (ji (m.lg.length : Int)) ?_
 refine tw 13 16 (.iface 115 (ji (m.lg.length : Int))) ?_
 refine tw 14 17 (.pointer (some (ja w.heap.size 4))) ?_
 refine tw 15 18 (ji m.sd) ?_ (hy := by intro Y hSw; have X := (A.below hSw A.lt).all; go_simp)
 refine tw 16 19 (.iface 115 (ji m.sd)) ?_
 refine tw 17 20 (.pointer (some (ja w.heap.size 5))) ?_
 refine tw 18 21 (ji m.ac) ?_ (hy := by intro Y hSw; have X := (A.below hSw A.lt).all; go_simp)
 refine tw 19 22 (.iface 115 (ji m.ac)) ?_
 refine tw 20 23 (.pointer (some (ja w.heap.size 6))) ?_
 refine tw 21 24 (ji m.al) ?_ (hy := by intro Y hSw; have X := (A.below hSw A.lt).all; go_simp)
 refine tw 22 25 (.iface 115 (ji m.al)) ?_
 refine w1 2 fun Kz hKz => ?_
 go_simp
 go_at_call 74
 refine (Gk m.up ⟨#[117, 112]⟩ ⟨#[100, 111, 119, 110]⟩ u0).mono ?_
 rintro e u1 ⟨rfl, hu1⟩
 rw [hu1]
 clear hu1 u1
 rw [show (if m.up = true then (⟨#[117, 112]⟩ : ByteArray) else ⟨#[100, 111, 119, 110]⟩) = Es m.up from rfl]
 refine hKz _ _ ⟨hb0, ?_⟩
 clear hKz Kz
 refine tw 3 6 (.iface 114 (.string (Es m.up))) ?_
 refine w1 23 fun Kz hKz => ?_
 go_simp
 obtain ⟨u2, hu2, k2⟩ := AM u0 (Obj.cells #[.iface 114 (.string (Es m.up)), .iface 115 (ji m.li), .iface 115 (ji m.ep), .iface 115 (ji (m.lg.length : Int)), .iface 115 (ji m.sd), .iface 115 (ji m.ac), .iface 115 (ji m.al)] 166)
 have O2 : AA CI 1 166 w.heap.size u2 (.slice (some (ja u0.heap.size 0)) 7 7) (CD m) := by rw [hu2]; exact Em (CD m) u0 (by have := hb0.size; have := B.size; omega) (by show 7 ≤ 1000; decide)
 rw [← hu2]
 clear hu2
 have hb2 := AG hb0 k2
 refine hKz _ _ ⟨hb2, ?_⟩
 clear hKz Kz
 refine tw 24 2 (.slice (some (ja u0.heap.size 0)) 7 7) ?_
 refine Ag ?_
 go_wp2
 go_ret
 exact ⟨_, rfl, O2, AG B hb2⟩
theorem Li (m : Mi) (a : Option Addr) (c : Nat) (w : World) (hw : Eg m) (htab : Dx w) : Calls prog 35 #[.agg #[.bool m.up, ji m.li, ji m.ep, .slice a m.lg.length c, ji m.sd, ji m.ac, ji m.al]] w fun e w' => e = .returned (.string (EX m)) ∧ Bw w w' := by
 obtain ⟨y, hy, B⟩ := AM w (Obj.cells #[.bool m.up, ji m.li, ji m.ep, .slice a m.lg.length c, ji m.sd, ji m.ac, ji m.al] 54)
 have A : Ab y w.heap.size m (.slice a m.lg.length c) := by rw [hy]; constructor <;> simp [go_sem]
 go_enter func35, ntmps35
 go_upto_region 1 with fail
 rw [← hy]
 clear hy
 have ca := A.all
 go_wp2_with fail
 go_at_call 72
 refine (Iq m a c y).mono ?_
 rintro e w1 ⟨g, rfl, O1, k1⟩
 have B1 := AG B k1
 go_wp2_with fail
 go_at_call 75
 refine (GI (some (ja g 0)) 7 (CD m) w1 O1.view.2 (IK hw) (by show 7 ≤ 6000000; decide) (Dc htab B1)).mono ?_
 rintro e w2 ⟨rfl, k2⟩
 rw [Kh]
 go_wp2
 go_ret
 exact ⟨rfl, AG B1 k2⟩
theorem Ip (m : Mi) (a : Option Addr) (c : Nat) (w : World) (hw : Eg m) : Calls prog 36 #[.agg #[.bool m.up, .int .i64 m.li, .int .i64 m.ep, .slice a m.lg.length c, .int .i64 m.sd, .int .i64 m.ac, .int .i64 m.al]] w fun e w' => e = .returned (.string (EX m)) ∧ Bw w w' := by
 obtain ⟨y, hy, B⟩ := AM w (Obj.cells #[.bool m.up, ji m.li, ji m.ep, .slice a m.lg.length c, ji m.sd, ji m.ac, ji m.al] 54)
 have A : Ab y w.heap.size m (.slice a m.lg.length c) := by rw [hy]; constructor <;> simp [go_sem]
 go_enter func36, ntmps36
 go_upto_region 1 with fail
 rw [← hy]
 clear hy
 obtain ⟨y2, hy2, k2⟩ := AM y (Obj.cells #[ji m.li, ji m.ep, ji (m.lg.length : Int), ji m.sd, ji m.ac, ji m.al] 3)
 have V : ∀ k, k < 6 → y2.cell? (ja y.heap.size k) = some (ji ((EC m).getD k 0)) := by
  rw [hy2]
  intro i hi
  rcases (by omega : i = 0 ∨ i = 1 ∨ i = 2 ∨ i = 3 ∨ i = 4 ∨ i = 5) with rfl | rfl | rfl | rfl | rfl | rfl
  all_goals exact CQ _ _ _ _ rfl
 have B2 := AG B k2
 have ca := A.all
 cases hu : m.up
 all_goals
  rw [hu] at ca
  go_upto_region 5 with fail
  rw [← hy2]
  clear hy2 ca A
  go_wp2
  go_loopw [3, 5] (fun o i wr => ∃ k : Nat, k ≤ 6 ∧ i = .int .i64 (k : Int) ∧ o = .string (E8 m k) ∧ Below y2.heap.size y2 wr) (fun _ i _ => 6 - (intOf i).toNat)
  case atStart => exact ⟨0, Nat.zero_le _, rfl, by show _ = Value.string (Es m.up); rw [hu]; rfl, Below.refl _ _⟩
  case round =>
   obtain ⟨k, hk, rfl, rfl, K⟩ := hrel
   by_cases hlt : k < 6
   ·
    have HT : Hid (E8 m k ++ ⟨#[32]⟩ ++ AH ((EC m).getD k 0) = E8 m (k + 1)) := Hs m hlt
    have hs := Hr hw k hk
    have hn := Ia hw hlt
    have hV := V k hlt
    have hc : wr.cell? (ja y.heap.size k) = some (ji ((EC m).getD k 0)) := (World.cell?_of_block (K.block _ (World.block_lt_of_cell? y2 _ hV))).trans hV
    clear hV
    generalize (EC m).getD k 0 = v at HT hn hc
    generalize E8 m k = M at HT hs ⊢
    have q1 : ¬ 9223372036854775807 < M.size + 1 := by omega
    go_wp2_with fail
    go_at_call 64
    refine (Bm v wr hn.1 hn.2).mono ?_
    rintro e w2 ⟨rfl, k2⟩
    rw [show (⟨(Lib.itoa v).toArray⟩ : ByteArray) = AH v from rfl]
    have z := Bj hn.1 hn.2
    generalize AH v = T at HT z ⊢
    have q2 : ¬ 9223372036854775807 < M.size + 1 + T.size := by omega
    have K := AG K k2
    go_wp2
    go_roundw
    case rel => exact ⟨k + 1, by omega, by go_num, by rw [← HT.out], K⟩
    case measure => simp [intOf]; omega
   obtain rfl : k = 6 := by omega
   go_wp2
   go_ret
   exact ⟨rfl, AG B2 K⟩
def Fk (b : Bool) : ByteArray := if b then ⟨#[32, 111]⟩ else ⟨#[32, 115]⟩
def Di (b : Bool) : ByteArray := if b then ⟨#[111]⟩ else ⟨#[115]⟩
def Fj (r : Rg) : ByteArray := ⟨#[114, 101, 103, 32]⟩ ++ AH r.ep ++ ⟨#[32]⟩ ++ AH r.ow ++ ⟨#[32]⟩ ++ AH r.pa ++ ⟨#[10]⟩
def EB (r : Rg) (L : List AD) : ByteArray := L.foldl (fun s d => s ++ EX d.m ++ ⟨#[10]⟩) (Fj r)
def Fi (r : Rg) (L : List AD) (n : Nat) : ByteArray := EB r L ++ ⟨#[108, 105, 110, 101, 32]⟩ ++ AH (n : Int)
def EK (r : Rg) (L : List AD) (n : Nat) (G : List Bool) : ByteArray := G.foldl (fun s b => s ++ Fk b) (Fi r L n)
def DO (x : AF) : ByteArray := EK x.rg x.two x.ln.length x.ga ++ ⟨#[10]⟩
structure EY (x : AF) : Prop where
 ep : BK x.rg.ep
 ow : BK x.rg.ow
 pa : BK x.rg.pa
 t : x.two.length ≤ 2
 m : ∀ d ∈ x.two, Eg d.m
 ln : x.ln.length ≤ 1048576
 g : x.ga.length ≤ 4
theorem Ju {x : AF} (h : EY x) : (Fj x.rg).size ≤ 70 := by
 have z0 := Bj h.ep.1 h.ep.2
 have z1 := Bj h.ow.1 h.ow.2
 have z2 := Bj h.pa.1 h.pa.2
 unfold Fj
 simp only [ByteArray.size_append]
 have e : (⟨#[32]⟩ : ByteArray).size = 1 := rfl
 have e2 : (⟨#[10]⟩ : ByteArray).size = 1 := rfl
 have e3 : (⟨#[114, 101, 103, 32]⟩ : ByteArray).size = 4 := rfl
 omega
theorem Hi (r : Rg) {L : List AD} {k : Nat} (hk : k < L.length) : EB r (L.take k) ++ EX (L.getD k AD.nil).m ++ ⟨#[10]⟩ = EB r (L.take (k + 1)) := by
 unfold EB
 rw [List.take_add_one, List.getElem?_eq_getElem hk, show L.getD k AD.nil = L[k] by simp [List.getD, List.getElem?_eq_getElem hk], List.foldl_append]
 rfl
theorem Hh {x : AF} (h : EY x) : ∀ k, k ≤ x.two.length → (EB x.rg (x.two.take k)).size ≤ 70 + 137 * k := by
 intro k
 induction k with
 | zero => intro _; exact Ju h
 | succ k ih =>
  intro hk
  have hlt : k < x.two.length := by omega
  have h1 := ih (by omega)
  have h2 := Hq (h.m (x.two.getD k AD.nil) (by rw [show x.two.getD k AD.nil = x.two[k] by simp [List.getD, List.getElem?_eq_getElem hlt]]; exact List.getElem_mem hlt))
  rw [← Hi x.rg hlt]
  simp only [ByteArray.size_append]
  have e2 : (⟨#[10]⟩ : ByteArray).size = 1 := rfl
  omega
theorem Hj {x : AF} (h : EY x) : (EB x.rg x.two).size ≤ 344 := by
 have h1 := Hh h x.two.length (Nat.le_refl _)
 rw [List.take_length] at h1
 have := h.t
 omega
theorem Jz (b : Bool) : (Fk b).size = 2 := by cases b <;> rfl
theorem Hu (r : Rg) (L : List AD) (n : Nat) {G : List Bool} {k : Nat} (hk : k < G.length) : EK r L n (G.take k) ++ Fk (G.getD k false) = EK r L n (G.take (k + 1)) := by
 unfold EK
 rw [List.take_add_one, List.getElem?_eq_getElem hk, show G.getD k false = G[k] by simp [List.getD, List.getElem?_eq_getElem hk], List.foldl_append]
 rfl
theorem Jt {x : AF} (h : EY x) : (Fi x.rg x.two x.ln.length).size ≤ 370 := by
 have h1 := Hj h
 have hn := h.ln
 have z := Bj (n := (x.ln.length : Int)) (by omega) (by omega)
 unfold Fi
 simp only [ByteArray.size_append]
 have e : (⟨#[108, 105, 110, 101, 32]⟩ : ByteArray).size = 5 := rfl
 omega
theorem Ht {x : AF} (h : EY x) : ∀ k, k ≤ x.ga.length → (EK x.rg x.two x.ln.length (x.ga.take k)).size ≤ 370 + 2 * k := by
 intro k
 induction k with
 | zero => intro _; exact Jt h
 | succ k ih =>
  intro hk
  have h1 := ih (by omega)
  rw [← Hu x.rg x.two x.ln.length (by omega)]
  simp only [ByteArray.size_append, Jz]
  omega
theorem Lm (x : AF) (w : World) (hV : Ck w x) (hF : EY x) : Calls prog 37 #[.agg #[.int .i64 x.id, .int .i64 x.po, .int .i64 x.rg.ep, .int .i64 x.rg.ow, .int .i64 x.rg.pa, .slice x.aT x.two.length x.cT, .slice x.aN x.net.length x.cN, .slice x.aG x.ga.length x.cG, .slice x.aL x.ln.length x.cL, .slice x.aS x.sd.length x.cS]] w fun e w' => e = .returned (.string (DO x)) ∧ Bw w w' := by
 obtain ⟨y, hy, B⟩ := AM w (Obj.cells #[.int .i64 x.id, .int .i64 x.po, .int .i64 x.rg.ep, .int .i64 x.rg.ow, .int .i64 x.rg.pa, .slice x.aT x.two.length x.cT, .slice x.aN x.net.length x.cN, .slice x.aG x.ga.length x.cG, .slice x.aL x.ln.length x.cL, .slice x.aS x.sd.length x.cS] 63)
 have A : Af y w.heap.size x := by rw [hy]; exact Af.new w _ x
 have V := hV.later B
 have z0 := Bj hF.ep.1 hF.ep.2
 have z1 := Bj hF.ow.1 hF.ow.2
 have z2 := Bj hF.pa.1 hF.pa.2
 have hH : Hid (Fj x.rg = ⟨#[114, 101, 103, 32]⟩ ++ AH x.rg.ep ++ ⟨#[32]⟩ ++ AH x.rg.ow ++ ⟨#[32]⟩ ++ AH x.rg.pa ++ ⟨#[10]⟩) := rfl
 obtain ⟨E0, h0⟩ : ∃ E, AH x.rg.ep = E := ⟨_, rfl⟩
 obtain ⟨E1, h1⟩ : ∃ E, AH x.rg.ow = E := ⟨_, rfl⟩
 obtain ⟨E2, h2⟩ : ∃ E, AH x.rg.pa = E := ⟨_, rfl⟩
 rw [h0, h1, h2] at hH
 rw [h0] at z0
 rw [h1] at z1
 rw [h2] at z2
 replace h0 : Hid _ := h0
 replace h1 : Hid _ := h1
 replace h2 : Hid _ := h2
 have q1 : ¬ 9223372036854775807 < 4 + E0.size := by omega
 have q2 : ¬ 9223372036854775807 < 4 + E0.size + 1 := by omega
 have q3 : ¬ 9223372036854775807 < 4 + E0.size + 1 + E1.size := by omega
 have q4 : ¬ 9223372036854775807 < 4 + E0.size + 1 + E1.size + 1 := by omega
 have q5 : ¬ 9223372036854775807 < 4 + E0.size + 1 + E1.size + 1 + E2.size := by omega
 have q6 : ¬ 9223372036854775807 < 4 + E0.size + 1 + E1.size + 1 + E2.size + 1 := by omega
 go_enter func37, ntmps37
 go_upto_region 1 with fail
 rw [← hy]
 clear hy
 refine An (fun Y => Bw y Y) fun u0 hb0 => ?_
 refine tw 0 6 (.pointer (some (ja w.heap.size 2))) ?_
 refine tw 1 7 (.pointer (some (ja w.heap.size 2))) ?_
 refine tw 2 8 (ji x.rg.ep) ?_ (hy := by intro Y hSw; have X := (A.below hSw A.lt).all; go_simp)
 refine tw 6 12 (.pointer (some (ja w.heap.size 2))) ?_
 refine tw 7 13 (.pointer (some (ja w.heap.size 3))) ?_
 refine tw 8 14 (ji x.rg.ow) ?_ (hy := by intro Y hSw; have X := (A.below hSw A.lt).all; go_simp)
 refine tw 12 18 (.pointer (some (ja w.heap.size 2))) ?_
 refine tw 13 19 (.pointer (some (ja w.heap.size 4))) ?_
 refine tw 14 20 (ji x.rg.pa) ?_ (hy := by intro Y hSw; have X := (A.below hSw A.lt).all; go_simp)
 refine w1 3 fun Kz hKz => ?_
 go_simp
 go_at_call 64
 refine (Bm x.rg.ep u0 hF.ep.1 hF.ep.2).mono ?_
 rintro e u1 ⟨rfl, kq⟩
 rw [show (⟨(Lib.itoa x.rg.ep).toArray⟩ : ByteArray) = AH x.rg.ep from rfl, h0.out]
 have hb1 := AG hb0 kq
 clear kq
 refine hKz _ _ ⟨hb1, ?_⟩
 clear hKz Kz
 refine tw 4 10 (.string (⟨#[114, 101, 103, 32]⟩ ++ E0)) ?_
 refine tw 5 11 (.string (⟨#[114, 101, 103, 32]⟩ ++ E0 ++ ⟨#[32]⟩)) ?_
 refine w1 9 fun Kz hKz => ?_
 go_simp
 go_at_call 64
 refine (Bm x.rg.ow u1 hF.ow.1 hF.ow.2).mono ?_
 rintro e u2 ⟨rfl, kq⟩
 rw [show (⟨(Lib.itoa x.rg.ow).toArray⟩ : ByteArray) = AH x.rg.ow from rfl, h1.out]
 have hb2 := AG hb1 kq
 clear kq
 refine hKz _ _ ⟨hb2, ?_⟩
 clear hKz Kz
 refine tw 10 16 (.string (⟨#[114, 101, 103, 32]⟩ ++ E0 ++ ⟨#[32]⟩ ++ E1)) ?_
 refine tw 11 17 (.string (⟨#[114, 101, 103, 32]⟩ ++ E0 ++ ⟨#[32]⟩ ++ E1 ++ ⟨#[32]⟩)) ?_
 refine w1 15 fun Kz hKz => ?_
 go_simp
 go_at_call 64
 refine (Bm x.rg.pa u2 hF.pa.1 hF.pa.2).mono ?_
 rintro e u3 ⟨rfl, kq⟩
 rw [show (⟨(Lib.itoa x.rg.pa).toArray⟩ : ByteArray) = AH x.rg.pa from rfl, h2.out]
 have hb3 := AG hb2 kq
 clear kq
 refine hKz _ _ ⟨hb3, ?_⟩
 clear hKz Kz
 refine tw 16 22 (.string (⟨#[114, 101, 103, 32]⟩ ++ E0 ++ ⟨#[32]⟩ ++ E1 ++ ⟨#[32]⟩ ++ E2)) ?_
 refine tw 17 23 (.string (⟨#[114, 101, 103, 32]⟩ ++ E0 ++ ⟨#[32]⟩ ++ E1 ++ ⟨#[32]⟩ ++ E2 ++ ⟨#[10]⟩)) ?_
 refine tw 18 3 (.string (⟨#[114, 101, 103, 32]⟩ ++ E0 ++ ⟨#[32]⟩ ++ E1 ++ ⟨#[32]⟩ ++ E2 ++ ⟨#[10]⟩)) ?_
 refine Ag ?_
 rw [← hH.out]
 have A := A.below hb3 A.lt
 have V := V.later hb3
 have B := AG B hb3
 clear hb0 hb1 hb2 hb3 q1 q2 q3 q4 q5 q6 z0 z1 z2 h0 h1 h2 hH hV
 have sA := A.lt
 go_wp2
 go_loopw [3, 4] (fun o i wr => ∃ k : Nat, k ≤ x.two.length ∧ i = .int .i64 (k : Int) ∧ o = .string (EB x.rg (x.two.take k)) ∧ Below u3.heap.size u3 wr) (fun _ i _ => x.two.length - (intOf i).toNat)
 case atStart => exact ⟨0, Nat.zero_le _, rfl, rfl, Below.refl _ _⟩
 case round =>
  obtain ⟨k, hk, rfl, rfl, K⟩ := hrel
  have A := A.below K sA
  have V := V.later K
  have ca := A.all
  by_cases hlt : k < x.two.length
  ·
   obtain ⟨b, off, eT, _⟩ := V.t (by omega)
   replace eT : x.aT = some ⟨b, off, none⟩ := eT
   have HT : Hid (EB x.rg (x.two.take k) ++ EX (x.two.getD k AD.nil).m ++ ⟨#[10]⟩ = EB x.rg (x.two.take (k + 1))) := Hi x.rg hlt
   have hs := Hh hF k hk
   have hm := hF.m (x.two.getD k AD.nil) (by rw [show x.two.getD k AD.nil = x.two[k] by simp [List.getD, List.getElem?_eq_getElem hlt]]; exact List.getElem_mem hlt)
   have ht := hF.t
   have hck : BL wr b (off + k * 7) (x.two.getD k AD.nil) := by have h1 := V.t; rw [eT] at h1; exact CZ (h1.at_ BC AD.nil hlt)
   generalize x.two.getD k AD.nil = d at HT hm hck
   generalize EB x.rg (x.two.take k) = M at HT hs ⊢
   rw [eT] at ca
   replace hck := hck.all
   replace eT : Hid _ := eT
   rw [eT.out]
   go_wp2_with fail
   go_at_call 36
   refine (Ip d.m d.ad d.cap wr hm).mono ?_
   rintro e w2 ⟨rfl, k2⟩
   have z := Hq hm
   generalize EX d.m = T at HT z ⊢
   have q1 : ¬ 9223372036854775807 < M.size + T.size := by omega
   have q2 : ¬ 9223372036854775807 < M.size + T.size + 1 := by omega
   have K := AG K k2
   go_wp2
   go_roundw
   case rel => exact ⟨k + 1, by omega, by go_num, by rw [← HT.out], K⟩
   case measure => simp [intOf]; omega
  obtain rfl : k = x.two.length := by omega
  rw [List.take_length]
  have HL : Hid (Fi x.rg x.two x.ln.length = EB x.rg x.two ++ ⟨#[108, 105, 110, 101, 32]⟩ ++ AH (x.ln.length : Int)) := rfl
  have hs := Hj hF
  have hn := hF.ln
  have z := Bj (n := (x.ln.length : Int)) (by omega) (by omega)
  generalize EB x.rg x.two = M at HL hs ⊢
  have q1 : ¬ 9223372036854775807 < M.size + 5 := by omega
  go_wp2_with fail
  go_at_call 64
  refine (Bm (x.ln.length : Int) wr (by omega) (by omega)).mono ?_
  rintro e w2 ⟨rfl, k2⟩
  rw [show (⟨(Lib.itoa (x.ln.length : Int)).toArray⟩ : ByteArray) = AH (x.ln.length : Int) from rfl]
  generalize AH (x.ln.length : Int) = T at HL z ⊢
  have q2 : ¬ 9223372036854775807 < M.size + 5 + T.size := by omega
  have A := A.below k2 A.lt
  have V := V.later k2
  have K := AG K k2
  have ca := A.all
  clear ca
  have ca := A.all
  go_upto_region 7 with fail
  rw [← HL.out]
  clear q1 q2 HL z hs k2
  have sA := A.lt
  have B := AG B K
  go_wp2
  go_loopw [3, 5] (fun o i wr => ∃ k : Nat, k ≤ x.ga.length ∧ i = .int .i64 (k : Int) ∧ o = .string (EK x.rg x.two x.ln.length (x.ga.take k)) ∧ Below w2.heap.size w2 wr) (fun _ i _ => x.ga.length - (intOf i).toNat)
  case atStart => exact ⟨0, Nat.zero_le _, rfl, rfl, Below.refl _ _⟩
  case round =>
   obtain ⟨k, hk, rfl, rfl, K⟩ := hrel
   have A := A.below K sA
   have V := V.later K
   have ca := A.all
   have hs := Ht hF k hk
   have hg := hF.g
   by_cases hlt : k < x.ga.length
   ·
    obtain ⟨b, off, eG, _⟩ := V.g (by omega)
    replace eG : x.aG = some ⟨b, off, none⟩ := eG
    have HT : Hid (EK x.rg x.two x.ln.length (x.ga.take k) ++ Fk (x.ga.getD k false) = EK x.rg x.two x.ln.length (x.ga.take (k + 1))) := Hu _ _ _ hlt
    have hck : wr.cell? ⟨b, off + k, none⟩ = some (.bool (x.ga.getD k false)) := by have h1 := V.g; rw [eG] at h1; have h2 := h1.at_ EE false hlt 0 _ rfl; rw [Nat.mul_one] at h2; exact h2
    generalize x.ga.getD k false = o at HT hck
    generalize EK x.rg x.two x.ln.length (x.ga.take k) = M at HT hs ⊢
    rw [eG] at ca
    replace eG : Hid _ := eG
    rw [eG.out]
    have q1 : ¬ 9223372036854775807 < M.size + 2 := by omega
    cases o
    all_goals
     go_wp2
     go_roundw
     case rel => exact ⟨k + 1, by omega, by go_num, by rw [← HT.out]; rfl, K⟩
     case measure => simp [intOf]; omega
   obtain rfl : k = x.ga.length := by omega
   rw [List.take_length] at hs ⊢
   have HB : Hid (DO x = EK x.rg x.two x.ln.length x.ga ++ ⟨#[10]⟩) := rfl
   generalize EK x.rg x.two x.ln.length x.ga = M at HB hs ⊢
   have q1 : ¬ 9223372036854775807 < M.size + 1 := by omega
   go_wp2
   go_ret
   exact ⟨(show Ending.returned (Value.string (M ++ ⟨#[10]⟩)) = .returned (.string (DO x)) by rw [HB.out]), AG B K⟩
def Fl (r : Rg) : List Be := [.inl ⟨#[114, 101, 103]⟩, .inr (some r.ep), .inr (some r.ow), .inr (some r.pa), .inr none]
def Dk (r : Rg) (L : List AD) : List Be := L.foldl (fun s d => s ++ CD d.m ++ [.inr none]) (Fl r)
def Fv (r : Rg) (L : List AD) (n : Nat) : List Be := Dk r L ++ [.inl ⟨#[108, 105, 110, 101]⟩, .inr (some (n : Int))]
def Dl (r : Rg) (L : List AD) (n : Nat) (G : List Bool) : List Be := G.foldl (fun s b => s ++ [.inl (Di b)]) (Fv r L n)
def FN (x : AF) : List Be := Dl x.rg x.two x.ln.length x.ga ++ [.inr none]
theorem J7 (r : Rg) {L : List AD} {k : Nat} (hk : k < L.length) : Dk r (L.take k) ++ CD (L.getD k AD.nil).m ++ [.inr none] = Dk r (L.take (k + 1)) := by
 unfold Dk
 rw [List.take_add_one, List.getElem?_eq_getElem hk, show L.getD k AD.nil = L[k] by simp [List.getD, List.getElem?_eq_getElem hk], List.foldl_append]
 rfl
theorem J8 (r : Rg) (L : List AD) (n : Nat) {G : List Bool} {k : Nat} (hk : k < G.length) : Dl r L n (G.take k) ++ [.inl (Di (G.getD k false))] = Dl r L n (G.take (k + 1)) := by
 unfold Dl
 rw [List.take_add_one, List.getElem?_eq_getElem hk, show G.getD k false = G[k] by simp [List.getD, List.getElem?_eq_getElem hk], List.foldl_append]
 rfl
theorem Gn (r : Rg) (L : List AD) : (Dk r L).length = 5 + 8 * L.length := by
 have key : ∀ (L : List AD) (P : List Be), (L.foldl (fun s d => s ++ CD d.m ++ [.inr none]) P).length = P.length + 8 * L.length := by
  intro L
  induction L with
  | nil => intro P; rfl
  | cons d L ih => intro P; rw [List.foldl_cons, ih]; simp [CD]; omega
 exact key L (Fl r)
theorem Kd (r : Rg) (L : List AD) (n : Nat) (G : List Bool) : (Dl r L n G).length = 7 + 8 * L.length + G.length := by
 have key : ∀ (G : List Bool) (P : List Be), (G.foldl (fun s b => s ++ [.inl (Di b)]) P).length = P.length + G.length := by
  intro G
  induction G with
  | nil => intro P; rfl
  | cons d G ih => intro P; rw [List.foldl_cons, ih]; simp; omega
 have h := key G (Fv r L n)
 unfold Dl
 rw [h]
 unfold Fv
 rw [List.length_append, Gn]
 simp
 omega
theorem Jy (b : Bool) : (Di b).size = 1 := by cases b <;> rfl
theorem LA {x : AF} (h : EY x) : ∀ y ∈ FN x, pW y := by
 have k1 : ∀ (L : List AD) (P : List Be), (∀ d ∈ L, Eg d.m) → (∀ y ∈ P, pW y) → ∀ y ∈ L.foldl (fun s d => s ++ CD d.m ++ [.inr none]) P, pW y := by
  intro L
  induction L with
  | nil => intro P _ h; exact h
  | cons d L ih =>
   intro P hd h
   refine ih _ (fun e he => hd e (List.mem_cons_of_mem _ he)) (fun y hy => ?_)
   rcases List.mem_append.1 hy with h1 | h1
   · rcases List.mem_append.1 h1 with h2 | h2
     · exact h y h2
     · exact IK (hd d List.mem_cons_self) y h2
   · obtain rfl : y = .inr none := by simpa using h1
     trivial
 have k2 : ∀ (G : List Bool) (P : List Be), (∀ y ∈ P, pW y) → ∀ y ∈ G.foldl (fun s b => s ++ [.inl (Di b)]) P, pW y := by
  intro G
  induction G with
  | nil => intro P h; exact h
  | cons b G ih =>
   intro P h
   refine ih _ (fun y hy => ?_)
   rcases List.mem_append.1 hy with h1 | h1
   · exact h y h1
   · obtain rfl : y = .inl (Di b) := by simpa using h1
     show (Di b).size ≤ 100
     rw [Jy]
     omega
 intro y hy
 rcases List.mem_append.1 hy with h1 | h1
 · refine k2 x.ga _ (fun z hz => ?_) y h1
   rcases List.mem_append.1 hz with h2 | h2
   · refine k1 x.two _ h.m (fun v hv => ?_) z h2
     unfold Fl at hv
     simp only [List.mem_cons, List.not_mem_nil, or_false] at hv
     rcases hv with rfl | rfl | rfl | rfl | rfl
     · show (⟨#[114, 101, 103]⟩ : ByteArray).size ≤ 100; decide
     · exact h.ep
     · exact h.ow
     · exact h.pa
     · trivial
   · simp only [List.mem_cons, List.not_mem_nil, or_false] at h2
     rcases h2 with rfl | rfl
     · show (⟨#[108, 105, 110, 101]⟩ : ByteArray).size ≤ 100; decide
     · have := h.ln; exact ⟨by omega, by omega⟩
 · obtain rfl : y = .inr none := by simpa using h1
   trivial
theorem KM (x : AF) : Et (FN x) = DO x := by
 have k1 : ∀ (L : List AD) (s : List Be) (B : ByteArray), BI s = (B.data.toList, false) → BI (L.foldl (fun s d => s ++ CD d.m ++ [.inr none]) s) = ((L.foldl (fun s d => s ++ EX d.m ++ ⟨#[10]⟩) B).data.toList, false) := by
  intro L
  induction L with
  | nil => intro s B h; exact h
  | cons d L ih =>
   intro s B h
   refine ih _ _ ?_
   unfold BI at h ⊢
   rw [List.foldl_append, List.foldl_append, h]
   simp [CD, EX, EC, Ce, pE, pT, ByteArray.data_append]
 have k2 : ∀ (G : List Bool) (s : List Be) (B : ByteArray), BI s = (B.data.toList, true) → BI (G.foldl (fun s b => s ++ [.inl (Di b)]) s) = ((G.foldl (fun s b => s ++ Fk b) B).data.toList, true) := by
  intro G
  induction G with
  | nil => intro s B h; exact h
  | cons b G ih =>
   intro s B h
   refine ih _ _ ?_
   unfold BI at h ⊢
   rw [List.foldl_append, h]
   cases b <;> simp [Ce, pE, pT, Di, Fk, ByteArray.data_append]
 have h0 : BI (Fl x.rg) = ((Fj x.rg).data.toList, false) := by simp [BI, Fl, Fj, Ce, pE, pT, ByteArray.data_append]
 have h1 := k1 x.two _ _ h0
 have h2 : BI (Fv x.rg x.two x.ln.length) = ((Fi x.rg x.two x.ln.length).data.toList, true) := by
  unfold Fv Dk
  unfold BI at h1 ⊢
  rw [List.foldl_append, h1]
  simp [Fi, EB, Ce, pE, pT, ByteArray.data_append]
 have h3 := k2 x.ga _ _ h2
 apply ByteArray.ext
 unfold Et FN DO Dl
 unfold BI at h3 ⊢
 rw [List.foldl_append, h3]
 simp [EK, Ce, pE, pT, ByteArray.data_append]
 apply Array.ext'
 simp
theorem Le (x : AF) (w : World) (hl : x.ln.length ≤ 1048576) : Calls prog 73 #[.agg (bc x)] w fun e w' => e = .returned (ji (x.ln.length : Int)) ∧ Bw w w' := by
 go_enter func73, ntmps73
 go_wp2
 go_ret
 exact ⟨rfl, Ax _⟩
theorem Ln (x : AF) (w : World) (hV : Ck w x) (hF : EY x) (htab : Dx w) : Calls prog 30 #[.agg #[.int .i64 x.id, .int .i64 x.po, .int .i64 x.rg.ep, .int .i64 x.rg.ow, .int .i64 x.rg.pa, .slice x.aT x.two.length x.cT, .slice x.aN x.net.length x.cN, .slice x.aG x.ga.length x.cG, .slice x.aL x.ln.length x.cL, .slice x.aS x.sd.length x.cS]] w fun e w' => e = .returned (.string (DO x)) ∧ Bw w w' := by
 obtain ⟨i0, hi, hz0, hz1, hz2⟩ := info_parts IE
 obtain ⟨y, hy, B⟩ := AM w (Obj.cells #[.int .i64 x.id, .int .i64 x.po, .int .i64 x.rg.ep, .int .i64 x.rg.ow, .int .i64 x.rg.pa, .slice x.aT x.two.length x.cT, .slice x.aN x.net.length x.cN, .slice x.aG x.ga.length x.cG, .slice x.aL x.ln.length x.cL, .slice x.aS x.sd.length x.cS] 63)
 have A : Af y w.heap.size x := by rw [hy]; exact Af.new w _ x
 have hB := hV.t.lt BC (by omega)
 have hG := hV.g.lt EE (by omega)
 have ca := A.all
 have l0 := A.lt
 go_enter func30, ntmps30
 go_upto_region 1 with fail
 rw [← hy]
 clear hy
 obtain ⟨y1, hy1, k1⟩ := AM y (Obj.cells #[.iface 114 (.string ⟨#[114, 101, 103]⟩), .iface 115 (ji x.rg.ep), .iface 115 (ji x.rg.ow), .iface 115 (ji x.rg.pa), .iface 117 (.agg #[])] 166)
 have O : AA CI 1 166 (w.heap.size + 1) y1 (.slice (some ⟨y.heap.size, 0, none⟩) 5 5) (Dk x.rg (x.two.take 0)) := by rw [hy1]; exact Em (Fl x.rg) y (by omega) (by show 5 ≤ 1000; decide)
 go_upto_region 2 with fail
 rw [← hy1]
 clear hy1 ca
 have A := A.below k1 A.lt
 have B := AG B k1
 clear k1
 generalize y.heap.size = gy at O ⊢
 have ca := A.all
 go_wp2
 clear ca
 go_loopw [3, 27] (fun v i wr => ∃ k : Nat, k ≤ x.two.length ∧ i = .int .i64 (k : Int) ∧ AA CI 1 166 (w.heap.size + 1) wr v (Dk x.rg (x.two.take k)) ∧ Af wr w.heap.size x ∧ Below w.heap.size w wr) (fun _ i _ => x.two.length - (intOf i).toNat)
 case atStart => exact ⟨0, Nat.zero_le _, rfl, O, A, B⟩
 case round =>
  clear O A B
  obtain ⟨k, hk, rfl, O, A, B⟩ := hrel
  have l1 := A.lt
  have ht := hF.t
  by_cases hlt : k < x.two.length
  ·
   have HV := hV.t.below B hB
   obtain ⟨b, off, eT, _⟩ := HV (by omega)
   replace eT : x.aT = some ⟨b, off, none⟩ := eT
   have HT : Hid (Dk x.rg (x.two.take k) ++ CD (x.two.getD k AD.nil).m ++ [.inr none] = Dk x.rg (x.two.take (k + 1))) := J7 x.rg hlt
   have hm : (Dk x.rg (x.two.take k)).length ≤ 100 := by
    have h1 := Gn x.rg (x.two.take k)
    have h2 : (x.two.take k).length ≤ k := by simp; omega
    have := hF.t
    omega
   have hck : BL wr b (off + k * 7) (x.two.getD k AD.nil) := by rw [eT] at HV; exact CZ (HV.at_ BC AD.nil hlt)
   generalize x.two.getD k AD.nil = d at HT hck
   generalize Dk x.rg (x.two.take k) = M at HT hm O
   have hbl : b < wr.heap.size := World.block_lt_of_cell? wr _ hck.c0
   replace hck := hck.all
   obtain ⟨w1_, hw1, j1⟩ := AM wr (Obj.cells #[.bool d.m.up, .int .i64 d.m.li, .int .i64 d.m.ep, .slice d.ad d.m.lg.length d.cap, .int .i64 d.m.sd, .int .i64 d.m.ac, .int .i64 d.m.al] 54)
   have N1 : Ab w1_ wr.heap.size d.m (.slice d.ad d.m.lg.length d.cap) := by rw [hw1]; constructor <;> simp [go_sem]
   replace eT : Hid _ := eT
   rw [eT.out]
   go_upto_region 5 with fail
   rw [← hw1]
   clear hw1 hck
   have O := O.later j1
   have A := A.below j1 A.lt
   have B := AG B j1
   have cn := N1.all
   go_wp2_with fail
   go_at_call 72
   clear cn N1
   refine (Iq d.m d.ad d.cap w1_).mono ?_
   rintro e w2 ⟨g2, rfl, O2, k2⟩
   have V2 := O2.view.2
   have O := O.later k2
   have A := A.below k2 A.lt
   have B := AG B k2
   have l2 := A.lt
   clear O2 k2 j1 l1
   go_wp2_with (first | (at_builtin; refine Ej Eh E9 rfl _ _ 118 rfl (w.heap.size + 1) 166 i0 .nilIface 16 underlying118 hi hz0 hz1 hz2 rfl (by decide) _ M rfl O (some ⟨g2, 0, none⟩) 7 (CD d.m) rfl (fun e => by cases e) V2 ?zl (by decide) ?zb ?_))
   try case zl => (first | omega | (simp only [List.length_append, List.length_cons, List.length_nil]; omega) | (have l7_ : (CD d.m).length = 7 := rfl; omega) | (have l7_ : (CD d.m).length = 7 := rfl; simp only [List.length_append, List.length_cons, List.length_nil]; omega))
   try case zb => omega
   intro v3 w3 O3 g3 _
   have A := A.keep (g3.block _ A.lt (fun e => by have := (O.lt _ e.symm).1; omega))
   have B : Bw w w3 := B.grown g3 B.size (fun g e => by have := (O.lt g e).1; omega)
   have l3 := A.lt
   obtain ⟨w4, hw4, j4⟩ := AM w3 (Obj.cells #[pV (.inr none)] 166)
   have V4 : AI CI w4 (some ⟨w3.heap.size, 0, none⟩) [.inr none] := by rw [hw4]; exact (Em [.inr none] w3 (Nat.le_refl _) (by show 1 ≤ 1000; decide)).view.2
   have O4 := O3.later j4
   have A := A.below j4 A.lt
   have B := AG B j4
   have l4 := A.lt
   clear g3 O O3 j4 V2
   rw [show (Obj.cells #[pV (.inr none)] 166) = Obj.cells #[.iface 117 (.agg #[])] 166 from rfl] at hw4
   go_wp2_with (first | (at_builtin; refine Ej Eh E9 rfl _ _ 118 rfl (w.heap.size + 1) 166 i0 .nilIface 16 underlying118 hi hz0 hz1 hz2 rfl (by decide) _ (M ++ CD d.m) rfl ?zo (some ⟨w3.heap.size, 0, none⟩) 1 [.inr none] rfl (fun e => by cases e) ?zv ?zl (by decide) ?zb ?_))
   case zo => rw [← hw4]; exact O4
   case zv => rw [← hw4]; exact V4
   try case zl => (first | omega | (simp only [List.length_append, List.length_cons, List.length_nil]; omega) | (have l7_ : (CD d.m).length = 7 := rfl; omega) | (have l7_ : (CD d.m).length = 7 := rfl; simp only [List.length_append, List.length_cons, List.length_nil]; omega))
   try case zb => rw [← hw4]; omega
   rw [← hw4]
   clear hw4
   intro v5 w5 O5 g5 _
   have A := A.keep (g5.block _ A.lt (fun e => by have := (O4.lt _ e.symm).1; omega))
   have B : Bw w w5 := B.grown g5 B.size (fun g e => by have := (O4.lt g e).1; omega)
   have O6 : AA CI 1 166 (w.heap.size + 1) w5 v5 (Dk x.rg (x.two.take (k + 1))) := by rw [← HT.out, List.append_assoc]; exact O5
   clear O4 O5 g5 V4
   go_wp2
   go_roundw
   case rel => exact ⟨k + 1, by omega, by go_num, O6, A, B⟩
   case measure => simp [intOf]; omega
  obtain rfl : k = x.two.length := by omega
  rw [List.take_length] at O
  obtain ⟨aM, cM, rfl⟩ := O.open_
  have hm : (Dk x.rg x.two).length ≤ 100 := by have := Gn x.rg x.two; omega
  have ca := A.all
  go_wp2_with fail
  go_at_call 73
  clear ca
  refine (Le x wr hF.ln).mono ?_
  rintro e w2 ⟨rfl, k2⟩
  have O := O.later k2
  have A := A.below k2 A.lt
  have B := AG B k2
  have l2 := A.lt
  clear k2 l1
  obtain ⟨w3, hw3, j3⟩ := AM w2 (Obj.cells #[.iface 114 (.string ⟨#[108, 105, 110, 101]⟩), .iface 115 (ji (x.ln.length : Int))] 166)
  have V3 : AI CI w3 (some ⟨w2.heap.size, 0, none⟩) [.inl ⟨#[108, 105, 110, 101]⟩, .inr (some (x.ln.length : Int))] := by rw [hw3]; exact (Em [.inl ⟨#[108, 105, 110, 101]⟩, .inr (some (x.ln.length : Int))] w2 (Nat.le_refl _) (by show 2 ≤ 1000; decide)).view.2
  have O3 := O.later j3
  have A := A.below j3 A.lt
  have B := AG B j3
  have l3 := A.lt
  clear O j3
  go_wp2_with (first | (at_builtin; refine Ej Eh E9 rfl _ _ 118 rfl (w.heap.size + 1) 166 i0 .nilIface 16 underlying118 hi hz0 hz1 hz2 rfl (by decide) _ (Dk x.rg x.two) rfl ?zo (some ⟨w2.heap.size, 0, none⟩) 2 [.inl ⟨#[108, 105, 110, 101]⟩, .inr (some (x.ln.length : Int))] rfl (fun e => by cases e) ?zv ?zl (by decide) ?zb ?_))
  case zo => rw [← hw3]; exact O3
  case zv => rw [← hw3]; exact V3
  try case zl => (first | omega | (simp only [List.length_append, List.length_cons, List.length_nil]; omega) | (have l7_ : (CD d.m).length = 7 := rfl; omega) | (have l7_ : (CD d.m).length = 7 := rfl; simp only [List.length_append, List.length_cons, List.length_nil]; omega))
  try case zb => rw [← hw3]; omega
  rw [← hw3]
  clear hw3
  intro v4 w4 O4 g4 _
  have A := A.keep (g4.block _ A.lt (fun e => by have := (O3.lt _ e.symm).1; omega))
  have B : Bw w w4 := B.grown g4 B.size (fun g e => by have := (O3.lt g e).1; omega)
  have O : AA CI 1 166 (w.heap.size + 1) w4 v4 (Dl x.rg x.two x.ln.length (x.ga.take 0)) := O4
  clear O3 O4 g4 V3
  have ca := A.all
  go_wp2
  clear ca
  go_loopw [3, 51] (fun v i wr => ∃ k : Nat, k ≤ x.ga.length ∧ i = .int .i64 (k : Int) ∧ AA CI 1 166 (w.heap.size + 1) wr v (Dl x.rg x.two x.ln.length (x.ga.take k)) ∧ Af wr w.heap.size x ∧ Below w.heap.size w wr) (fun _ i _ => x.ga.length - (intOf i).toNat)
  case atStart => exact ⟨0, Nat.zero_le _, rfl, O, A, B⟩
  case round =>
   clear O A B
   obtain ⟨k, hk, rfl, O, A, B⟩ := hrel
   have l1 := A.lt
   have hg4 := hF.g
   have hm : (Dl x.rg x.two x.ln.length (x.ga.take k)).length ≤ 100 := by
    have h1 := Kd x.rg x.two x.ln.length (x.ga.take k)
    have h2 : (x.ga.take k).length ≤ k := by simp; omega
    omega
   by_cases hlt : k < x.ga.length
   ·
    have HV := hV.g.below B hG
    obtain ⟨b, off, eG, _⟩ := HV (by omega)
    replace eG : x.aG = some ⟨b, off, none⟩ := eG
    have HT : Hid (Dl x.rg x.two x.ln.length (x.ga.take k) ++ [.inl (Di (x.ga.getD k false))] = Dl x.rg x.two x.ln.length (x.ga.take (k + 1))) := J8 _ _ _ hlt
    have hck : wr.cell? ⟨b, off + k, none⟩ = some (.bool (x.ga.getD k false)) := by rw [eG] at HV; have h2 := HV.at_ EE false hlt 0 _ rfl; rw [Nat.mul_one] at h2; exact h2
    generalize x.ga.getD k false = o at HT hck
    generalize Dl x.rg x.two x.ln.length (x.ga.take k) = M at HT hm O
    replace eG : Hid _ := eG
    rw [eG.out]
    go_wp2_with fail
    go_at_call 74
    refine (Gk o ⟨#[111]⟩ ⟨#[115]⟩ wr).mono ?_
    rintro e u1 ⟨rfl, hu1⟩
    rw [hu1]
    clear hu1 u1
    rw [show (if o = true then (⟨#[111]⟩ : ByteArray) else ⟨#[115]⟩) = Di o from rfl]
    obtain ⟨w3, hw3, j3⟩ := AM wr (Obj.cells #[.iface 114 (.string (Di o))] 166)
    have V3 : AI CI w3 (some ⟨wr.heap.size, 0, none⟩) [.inl (Di o)] := by rw [hw3]; exact (Em [.inl (Di o)] wr (Nat.le_refl _) (by show 1 ≤ 1000; decide)).view.2
    have O3 := O.later j3
    have A := A.below j3 A.lt
    have B := AG B j3
    have l3 := A.lt
    clear O j3
    go_wp2_with (first | (at_builtin; refine Ej Eh E9 rfl _ _ 118 rfl (w.heap.size + 1) 166 i0 .nilIface 16 underlying118 hi hz0 hz1 hz2 rfl (by decide) _ M rfl ?zo (some ⟨wr.heap.size, 0, none⟩) 1 [.inl (Di o)] rfl (fun e => by cases e) ?zv ?zl (by decide) ?zb ?_))
    case zo => rw [← hw3]; exact O3
    case zv => rw [← hw3]; exact V3
    try case zl => (first | omega | (simp only [List.length_append, List.length_cons, List.length_nil]; omega) | (have l7_ : (CD d.m).length = 7 := rfl; omega) | (have l7_ : (CD d.m).length = 7 := rfl; simp only [List.length_append, List.length_cons, List.length_nil]; omega))
    try case zb => rw [← hw3]; omega
    rw [← hw3]
    clear hw3
    intro v4 w4 O4 g4 _
    have A := A.keep (g4.block _ A.lt (fun e => by have := (O3.lt _ e.symm).1; omega))
    have B : Bw w w4 := B.grown g4 B.size (fun g e => by have := (O3.lt g e).1; omega)
    have O6 : AA CI 1 166 (w.heap.size + 1) w4 v4 (Dl x.rg x.two x.ln.length (x.ga.take (k + 1))) := by rw [← HT.out]; exact O4
    clear O3 O4 g4 V3
    go_wp2
    go_roundw
    case rel => exact ⟨k + 1, by omega, by go_num, O6, A, B⟩
    case measure => simp [intOf]; omega
   obtain rfl : k = x.ga.length := by omega
   rw [List.take_length] at O hm
   obtain ⟨aM, cM, rfl⟩ := O.open_
   obtain ⟨w3, hw3, j3⟩ := AM wr (Obj.cells #[pV (.inr none)] 166)
   have V3 : AI CI w3 (some ⟨wr.heap.size, 0, none⟩) [.inr none] := by rw [hw3]; exact (Em [.inr none] wr (Nat.le_refl _) (by show 1 ≤ 1000; decide)).view.2
   have O3 := O.later j3
   have B := AG B j3
   have s3 := B.size
   have l3 : w.heap.size < w3.heap.size := by have := j3.size; omega
   clear O j3
   rw [show (Obj.cells #[pV (.inr none)] 166) = Obj.cells #[.iface 117 (.agg #[])] 166 from rfl] at hw3
   go_wp2_with (first | (at_builtin; refine Ej Eh E9 rfl _ _ 118 rfl (w.heap.size + 1) 166 i0 .nilIface 16 underlying118 hi hz0 hz1 hz2 rfl (by decide) _ (Dl x.rg x.two x.ln.length x.ga) rfl ?zo (some ⟨wr.heap.size, 0, none⟩) 1 [.inr none] rfl (fun e => by cases e) ?zv ?zl (by decide) ?zb ?_))
   case zo => rw [← hw3]; exact O3
   case zv => rw [← hw3]; exact V3
   try case zl => (first | omega | (simp only [List.length_append, List.length_cons, List.length_nil]; omega) | (have l7_ : (CD d.m).length = 7 := rfl; omega) | (have l7_ : (CD d.m).length = 7 := rfl; simp only [List.length_append, List.length_cons, List.length_nil]; omega))
   try case zb => rw [← hw3]; omega
   rw [← hw3]
   clear hw3
   intro v4 w4 O4 g4 _
   have B : Bw w w4 := B.grown g4 B.size (fun g e => by have := (O3.lt g e).1; omega)
   have O9 : AA CI 1 166 (w.heap.size + 1) w4 v4 (FN x) := O4
   have hPw := LA hF
   have hPl : (FN x).length ≤ 6000000 := by unfold FN; rw [List.length_append, List.length_singleton]; omega
   have hPt := KM x
   generalize FN x = P at O9 hPw hPl hPt
   replace hPt : Hid _ := hPt
   clear O3 O4 g4 V3
   obtain ⟨aN, cN, rfl⟩ := O9.open_
   go_wp2_with fail
   go_at_call 75
   refine (GI aN cN P w4 O9.view.2 hPw hPl (Dc htab B)).mono ?_
   rintro e w5 ⟨rfl, k5⟩
   rw [hPt.out]
   go_wp2
   go_ret
   exact ⟨rfl, AG B k5⟩
attribute [local go_sem] ic
theorem AQ.setUp {w : World} {q : Nat} {m : Mi} {v : Value} (h : AQ w q m v) (z : Bool) : AQ (w.setCell (ja q 0) (.bool z)) q ⟨z, m.li, m.ep, m.lg, m.sd, m.ac, m.al⟩ v :=
 ⟨Al h.c0, (AB (by decide)).trans h.c1, (AB (by decide)).trans h.c2, (AB (by decide)).trans h.c3, (AB (by decide)).trans h.c4, (AB (by decide)).trans h.c5, (AB (by decide)).trans h.c6, fun i => by rw [World.frozen?_setCell]; exact h.fr i⟩
theorem AQ.setEp {w : World} {q : Nat} {m : Mi} {v : Value} (h : AQ w q m v) (z : Int) : AQ (w.setCell (ja q 2) (ji z)) q ⟨m.up, m.li, z, m.lg, m.sd, m.ac, m.al⟩ v :=
 ⟨(AB (by decide)).trans h.c0, (AB (by decide)).trans h.c1, Al h.c2, (AB (by decide)).trans h.c3, (AB (by decide)).trans h.c4, (AB (by decide)).trans h.c5, (AB (by decide)).trans h.c6, fun i => by rw [World.frozen?_setCell]; exact h.fr i⟩
theorem AQ.setSd {w : World} {q : Nat} {m : Mi} {v : Value} (h : AQ w q m v) (z : Int) : AQ (w.setCell (ja q 4) (ji z)) q ⟨m.up, m.li, m.ep, m.lg, z, m.ac, m.al⟩ v :=
 ⟨(AB (by decide)).trans h.c0, (AB (by decide)).trans h.c1, (AB (by decide)).trans h.c2, (AB (by decide)).trans h.c3, Al h.c4, (AB (by decide)).trans h.c5, (AB (by decide)).trans h.c6, fun i => by rw [World.frozen?_setCell]; exact h.fr i⟩
theorem AQ.setAc {w : World} {q : Nat} {m : Mi} {v : Value} (h : AQ w q m v) (z : Int) : AQ (w.setCell (ja q 5) (ji z)) q ⟨m.up, m.li, m.ep, m.lg, m.sd, z, m.al⟩ v :=
 ⟨(AB (by decide)).trans h.c0, (AB (by decide)).trans h.c1, (AB (by decide)).trans h.c2, (AB (by decide)).trans h.c3, (AB (by decide)).trans h.c4, Al h.c5, (AB (by decide)).trans h.c6, fun i => by rw [World.frozen?_setCell]; exact h.fr i⟩
theorem IM (hR : Gc) {cb : Nat} {ad : Option Addr} {len cap : Nat} {f : Nat → Int} (w : World) (hs : At w cb ad len cap f) (hcb : cb < w.heap.size) : Calls prog 70 #[.pointer (some (ja cb 0))] w fun e w' => Ih 61 w cb ad len cap f e w' := by
 obtain ⟨i0, hi0, hz0, hz1, hz2⟩ := info_parts FZ;obtain ⟨y0, hy0⟩ := AC (w.alloc (Obj.cells #[.bool false, ji 0, ji 0, .slice none 0 0, ji 0, ji 0, ji 0] 54));have D0 : DV w cb ad len cap y0 := by rw [hy0]; exact (DV.start hs).alloc _
 have R0 : AQ y0 w.heap.size ⟨false, 0, 0, [], 0, 0, 0⟩ (.slice none 0 0) := by rw [hy0]; exact AQ.new w _ ⟨false, 0, 0, [], 0, 0, 0⟩ _
 have z0 := R0.lt;go_enter func70, ntmps70
 go_wp2_with fail
 go_at_call 102
 rw [← hy0];clear hy0;refine (Kv hR y0 (D0.src hs) (by omega)).mono ?_;rintro e y1 ⟨m, a, c, rfl, ⟨hl, hw⟩, O, s1, g1⟩;have D := D0.step s1 g1;have R := R0.keep (g1.block _ R0.lt (by simp; omega));have z1 := g1.size;have lo := O.lt;clear D0 R0 s1 g1;obtain ⟨y2, hy2, k2⟩ := AM y1 (Obj.cells (mc m a c) 54);have N : AQ y2 y1.heap.size m (.slice a m.lg.length c) := by rw [hy2]; exact AQ.new y1 _ _ _
 have D := D.later8 k2;have R := R.below k2 R.lt;have O := O.later k2;have z2 := N.lt;go_upto_region 2 with fail
 rw [← hy2];clear hy2 k2;obtain ⟨Q, hQ⟩ := AC y1.heap.size;rw [← hQ] at N lo z1 z2 ⊢;clear hQ;go_wp2_with fail
 go_at_call 56
 refine (BD (D.src hs) 10 (by decide) (by decide)).mono ?_;rintro e y3 ⟨v, rfl, v0, v1, s_, g3⟩;have z3 := g3.size;have D := D.step s_ g3;have R := R.keep (g3.block _ R.lt (by simp; omega));have N := N.keep (g3.block _ N.lt (by simp; omega));have O := O.keep (fun g_ e => g3.block g_ (O.lt g_ e).2 (by have := lo g_ e; simp; omega));clear s_ g3;by_cases h0 : v = 0
 focus
  subst h0;obtain ⟨mm, hmm⟩ : ∃ q_ : Mi, q_ = ⟨!m.up, m.li, m.ep, m.lg, m.sd, m.ac, m.al⟩ := ⟨_, rfl⟩;obtain ⟨y6, hy6⟩ := AC (y3.setCell (ja Q 0) (.bool (!m.up)));have hl6 : mm.lg.length ≤ 61 := by rw [hmm]; show m.lg.length ≤ 61; omega
  have hw6 : Cs mm := by rw [hmm]; unfold Cs at hw ⊢; dsimp only; omega
  have N6 : AQ y6 Q mm (.slice a mm.lg.length c) := by rw [hy6, hmm]; exact N.setUp (!m.up)
  have kp : ∀ k, k ≠ Q → y6.heap[k]? = y3.heap[k]? := fun k hk => by rw [hy6]; exact AE hk
  have R := R.keep (kp _ (by omega));have O6 : AA AW 8 27 y0.heap.size y6 (.slice a mm.lg.length c) mm.lg := by rw [hmm]; exact O.keep (fun g_ e => kp g_ (by have := lo g_ e; omega))
  have lo6 : ∀ g, (Value.slice a mm.lg.length c).ownBlock = some g → y0.heap.size ≤ g ∧ g < Q := by rw [hmm]; exact lo
  have D : DV w cb ad len cap y6 := by rw [hy6]; exact D.set (by omega) hcb _
  obtain ⟨n0, n1, n2, n3, n4, n5, n6, nf⟩ := N;have fj := nf 0
 rotate_left;focus
  by_cases h1 : v = 1
  focus
   subst h1;go_wp2_with fail
   go_at_call 56
   refine (BD (D.src hs) 9 (by decide) (by decide)).mono ?_;rintro e y4 ⟨u, rfl, u0, u1, s_, g4⟩;have z4 := g4.size;have D := D.step s_ g4;have R := R.keep (g4.block _ R.lt (by simp; omega));have N := N.keep (g4.block _ N.lt (by simp; omega));have O := O.keep (fun g_ e => g4.block g_ (O.lt g_ e).2 (by have := lo g_ e; simp; omega));clear s_ g4;obtain ⟨mm, hmm⟩ : ∃ q_ : Mi, q_ = ⟨m.up, m.li, m.ep, m.lg, u - 1, m.ac, m.al⟩ := ⟨_, rfl⟩;obtain ⟨y6, hy6⟩ := AC (y4.setCell (ja Q 4) (ji (u - 1)));have hl6 : mm.lg.length ≤ 61 := by rw [hmm]; show m.lg.length ≤ 61; omega
   have hw6 : Cs mm := by rw [hmm]; unfold Cs at hw ⊢; dsimp only; omega
   have N6 : AQ y6 Q mm (.slice a mm.lg.length c) := by rw [hy6, hmm]; exact N.setSd (u - 1)
   have kp : ∀ k, k ≠ Q → y6.heap[k]? = y4.heap[k]? := fun k hk => by rw [hy6]; exact AE hk
   have R := R.keep (kp _ (by omega));have O6 : AA AW 8 27 y0.heap.size y6 (.slice a mm.lg.length c) mm.lg := by rw [hmm]; exact O.keep (fun g_ e => kp g_ (by have := lo g_ e; omega))
   have lo6 : ∀ g, (Value.slice a mm.lg.length c).ownBlock = some g → y0.heap.size ≤ g ∧ g < Q := by rw [hmm]; exact lo
   have D : DV w cb ad len cap y6 := by rw [hy6]; exact D.set (by omega) hcb _
   obtain ⟨n0, n1, n2, n3, n4, n5, n6, nf⟩ := N;have fj := nf 4
  rotate_left;focus
   by_cases h2 : v = 2
   focus
    subst h2;go_wp2_with fail
    go_at_call 56
    refine (BD (D.src hs) 9 (by decide) (by decide)).mono ?_;rintro e y4 ⟨u, rfl, u0, u1, s_, g4⟩;have z4 := g4.size;have D := D.step s_ g4;have R := R.keep (g4.block _ R.lt (by simp; omega));have N := N.keep (g4.block _ N.lt (by simp; omega));have O := O.keep (fun g_ e => g4.block g_ (O.lt g_ e).2 (by have := lo g_ e; simp; omega));clear s_ g4;obtain ⟨mm, hmm⟩ : ∃ q_ : Mi, q_ = ⟨m.up, m.li, m.ep, m.lg, m.sd, u - 1, m.al⟩ := ⟨_, rfl⟩;obtain ⟨y6, hy6⟩ := AC (y4.setCell (ja Q 5) (ji (u - 1)));have hl6 : mm.lg.length ≤ 61 := by rw [hmm]; show m.lg.length ≤ 61; omega
    have hw6 : Cs mm := by rw [hmm]; unfold Cs at hw ⊢; dsimp only; omega
    have N6 : AQ y6 Q mm (.slice a mm.lg.length c) := by rw [hy6, hmm]; exact N.setAc (u - 1)
    have kp : ∀ k, k ≠ Q → y6.heap[k]? = y4.heap[k]? := fun k hk => by rw [hy6]; exact AE hk
    have R := R.keep (kp _ (by omega));have O6 : AA AW 8 27 y0.heap.size y6 (.slice a mm.lg.length c) mm.lg := by rw [hmm]; exact O.keep (fun g_ e => kp g_ (by have := lo g_ e; omega))
    have lo6 : ∀ g, (Value.slice a mm.lg.length c).ownBlock = some g → y0.heap.size ≤ g ∧ g < Q := by rw [hmm]; exact lo
    have D : DV w cb ad len cap y6 := by rw [hy6]; exact D.set (by omega) hcb _
    obtain ⟨n0, n1, n2, n3, n4, n5, n6, nf⟩ := N;have fj := nf 5
   rotate_left;focus
    by_cases h3 : v = 3
    ·
     subst h3;go_upto_region 10 with fail
     refine Fn (fun Y => AQ Y Q m (.slice a m.lg.length c)) 7 ?_;intro u0 hu0;change Cz _ _ _ _ _ _ _ _ _ _;have kd : Bw y3 u0 := by rw [hu0]; exact (Below.refl _ _).drew
     clear hu0;have D := D.later8 kd;have R := R.below kd R.lt;have N := N.below kd N.lt;have O := O.later kd;have zd := kd.size;clear kd;refine tl 0 28 (.pointer (some (ja Q 3))) ?_;refine tl 2 30 (.pointer (some (ja cb 0))) ?_;refine tl 1 29 (.slice a m.lg.length c) ?_ (hy := by intro Y hSw; have X3 := hSw.c3; go_simp);refine wl 3 fun Kz hKz => ?_
     go_simp
     go_at_call 38
     refine (Gx u0 (D.src hs) (by omega)).mono ?_;rintro e u1 ⟨xx, rfl, s_, g1, _⟩;have zc := g1.size;have D := D.step s_ g1;have R := R.keep (g1.block _ R.lt (by simp; omega));have N := N.keep (g1.block _ N.lt (by simp; omega));have O := O.keep (fun g_ e => g1.block g_ (O.lt g_ e).2 (by have := lo g_ e; simp; omega));clear s_ g1;refine hKz _ _ ⟨fun _ => N, ?_⟩;clear hKz Kz;refine wl 4 fun Kz hKz => ?_
     go_simp
     obtain ⟨u2, hu2, kq⟩ := AM u1 (Obj.cells (ic xx) 27);have V1 : AI AW u2 (some (ja u1.heap.size 0)) [xx] := by rw [hu2]; exact AI.oneJ u1 _ xx
     have D := D.later8 kq;have R := R.below kq R.lt;have N := N.below kq N.lt;have O := O.later kq;have zq := kq.size;rw [← hu2];clear hu2 kq;refine hKz _ _ ⟨fun _ => N, ?_⟩;clear hKz Kz;refine wl 5 fun Kz hKz => ?_
     refine CC Av FB 33 _ _ 34 rfl rfl y0.heap.size 27 i0 (.agg #[ji 0, ji 0, ji 0, ji 0, ji 0, ji 0, ji 0, .bool false]) 64 underlying34 hi0 hz0 hz1 hz2 rfl (by decide) (by decide) (.slice a m.lg.length c) m.lg rfl O (some (ja u1.heap.size 0)) 1 [xx] rfl (fun e => by cases e) V1 (by simp; omega) (by omega) ?_;intro vN u3 oN gN hob;obtain ⟨mm, hmm⟩ : ∃ q_ : Mi, q_ = ⟨m.up, m.li, m.ep, m.lg ++ [xx], m.sd, m.ac, m.al⟩ := ⟨_, rfl⟩;have hl6 : mm.lg.length ≤ 61 := by rw [hmm]; show (m.lg ++ [xx]).length ≤ 61; simp; omega
     have hw6 : Cs mm := by rw [hmm]; unfold Cs at hw ⊢; dsimp only; omega
     have oN : AA AW 8 27 y0.heap.size u3 vN mm.lg := by rw [hmm]; exact oN
     replace hmm : Hid _ := hmm;have kb : ∀ k, k < u2.heap.size → (∀ g_, (Value.slice a m.lg.length c).ownBlock = some g_ → k ≠ g_) → u3.heap[k]? = u2.heap[k]? := fun k hk he => gN.block k hk (fun e => he k e.symm rfl)
     have hqn : ∀ g_, vN.ownBlock = some g_ → g_ ≠ Q := fun g_ e => hob.elim (fun h => by rw [h] at e; have := lo g_ e; omega) (fun h => by rw [h] at e; have e2 := Option.some.inj e; omega)
     have R := R.keep (kb _ R.lt (fun g_ e => by have := lo g_ e; omega));have N := N.keep (kb _ N.lt (fun g_ e => by have := lo g_ e; omega));have D : DV w cb ad len cap u3 := ⟨D.cur.carry (kb _ D.cur.lt (fun g_ e => by have := lo g_ e; omega)), HZ D.gr gN (fun k e => by have := lo k e; omega)⟩;have zN := gN.size;obtain ⟨aN, cN, rfl⟩ := oN.open_;clear gN kb hob V1 O;simp only [List.set_cons_zero, List.set_cons_succ];refine hKz _ _ ⟨fun _ => N, ?_⟩;clear hKz Kz;refine tl 6 34 (.pointer (some (ja Q 3))) ?_;refine wl 7 fun Kz hKz => ?_
     have c3 := N.c3;have f3 := N.fr 3;go_simp
     clear c3 f3;obtain ⟨y6, hy6⟩ := AC (u3.setCell (ja Q 3) (.slice aN mm.lg.length cN));have N6 : AQ y6 Q mm (.slice aN mm.lg.length cN) := by rw [hy6, hmm.out]; exact (N.log _).lg (m.lg ++ [xx])
     have kp : ∀ k, k ≠ Q → y6.heap[k]? = u3.heap[k]? := fun k hk => by rw [hy6]; exact AE hk
     have R := R.keep (kp _ (by omega));have O := oN.keep (fun g_ e => kp g_ (hqn g_ e));have D : DV w cb ad len cap y6 := by rw [hy6]; exact D.set (by omega) hcb _
     rw [← hy6];clear hy6 kp hmm oN N;refine hKz _ _ ⟨fun e => absurd rfl e, ?_⟩;clear hKz Kz;refine FD ?_;have N := N6;clear N6;have lo := O.lt;have O9 : AA AW 8 27 w.heap.size (((((((y6.setCell (ja w.heap.size 0) (.bool mm.up)).setCell (ja w.heap.size 1) (ji mm.li)).setCell (ja w.heap.size 2) (ji mm.ep)).setCell (ja w.heap.size 3) (.slice aN mm.lg.length cN)).setCell (ja w.heap.size 4) (ji mm.sd)).setCell (ja w.heap.size 5) (ji mm.ac)).setCell (ja w.heap.size 6) (ji mm.al)) (.slice aN mm.lg.length cN) mm.lg := (O.base (by omega)).keep (fun g_ e => Dd y6 w.heap.size g_ mm _ (by have := lo g_ e; omega));have D9 : DV w cb ad len cap (((((((y6.setCell (ja w.heap.size 0) (.bool mm.up)).setCell (ja w.heap.size 1) (ji mm.li)).setCell (ja w.heap.size 2) (ji mm.ep)).setCell (ja w.heap.size 3) (.slice aN mm.lg.length cN)).setCell (ja w.heap.size 4) (ji mm.sd)).setCell (ja w.heap.size 5) (ji mm.ac)).setCell (ja w.heap.size 6) (ji mm.al)) := ((((((D.set (Nat.le_refl _) hcb _).set (Nat.le_refl _) hcb _).set (Nat.le_refl _) hcb _).set (Nat.le_refl _) hcb _).set (Nat.le_refl _) hcb _).set (Nat.le_refl _) hcb _).set (Nat.le_refl _) hcb _;have sZ := D9.src hs;have gZ := D9.gr;obtain ⟨z0, z1, z2, z3, z4, z5, z6, zf⟩ := R;have g0 := zf 0;have g1 := zf 1;have g2 := zf 2;have g3 := zf 3;have g4 := zf 4;have g5 := zf 5;have g6 := zf 6;replace N := N.all;clear zf O D D9;go_wp2
     refine bodyPost_ret (v := .agg (mc mm aN cN)) (by simp [results, results70, go_sem, *]) rfl ⟨mm, aN, cN, rfl, ⟨hl6, hw6⟩, O9, sZ, gZ⟩
    focus
     by_cases h4 : v = 4
     focus
      subst h4;obtain ⟨y4, hy4, kn⟩ := AM y3 (Obj.cells #[ji (-1), ji 0, ji 1, ji 100001] 3);have hg : ∀ i, i < 4 → ∃ z, y4.cell? (ja y3.heap.size i) = some (ji z) ∧ (-1 ≤ z ∧ z ≤ 100001) := by
        intro i h_;rw [hy4];rcases (by omega : i = 0 ∨ i = 1 ∨ i = 2 ∨ i = 3) with rfl | rfl | rfl | rfl
        ·
         exact ⟨-1, by simp [go_sem], by omega⟩
        ·
         exact ⟨0, by simp [go_sem], by omega⟩
        ·
         exact ⟨1, by simp [go_sem], by omega⟩
        ·
         exact ⟨100001, by simp [go_sem], by omega⟩
      have D := D.later8 kn;have R := R.below kn R.lt;have N := N.below kn N.lt;have O := O.later kn;have hne : y3.heap.size ≠ cb := by omega
      go_wp2_with fail
      go_at_call 47
      rw [← hy4];have z4 := kn.size;clear hy4 kn;generalize y3.heap.size = E at hg hne ⊢
      refine (Dq (D.src hs) (fun z => -1 ≤ z ∧ z ≤ 100001) E 4 4 hne (by decide) (by decide) hg).mono ?_;rintro e y5 ⟨u, rfl, hu_, s_, g5⟩;have z5 := g5.size;clear hg;have D := D.step s_ g5;have R := R.keep (g5.block _ R.lt (by simp; omega));have N := N.keep (g5.block _ N.lt (by simp; omega));have O := O.keep (fun g_ e => g5.block g_ (O.lt g_ e).2 (by have := lo g_ e; simp; omega));clear s_ g5;obtain ⟨mm, hmm⟩ : ∃ q_ : Mi, q_ = ⟨m.up, m.li, u, m.lg, m.sd, m.ac, m.al⟩ := ⟨_, rfl⟩;obtain ⟨y6, hy6⟩ := AC (y5.setCell (ja Q 2) (ji u));have hl6 : mm.lg.length ≤ 61 := by rw [hmm]; show m.lg.length ≤ 61; omega
      have hw6 : Cs mm := by rw [hmm]; unfold Cs at hw ⊢; dsimp only; omega
      have N6 : AQ y6 Q mm (.slice a mm.lg.length c) := by rw [hy6, hmm]; exact N.setEp u
      have kp : ∀ k, k ≠ Q → y6.heap[k]? = y5.heap[k]? := fun k hk => by rw [hy6]; exact AE hk
      have R := R.keep (kp _ (by omega));have O6 : AA AW 8 27 y0.heap.size y6 (.slice a mm.lg.length c) mm.lg := by rw [hmm]; exact O.keep (fun g_ e => kp g_ (by have := lo g_ e; omega))
      have lo6 : ∀ g, (Value.slice a mm.lg.length c).ownBlock = some g → y0.heap.size ≤ g ∧ g < Q := by rw [hmm]; exact lo
      have D : DV w cb ad len cap y6 := by rw [hy6]; exact D.set (by omega) hcb _
      obtain ⟨n0, n1, n2, n3, n4, n5, n6, nf⟩ := N;have fj := nf 2
     rotate_left
     ·
      have d0 : (v == 0) = false := by rw [beq_eq_false_iff_ne]; exact h0
      have d1 : (v == 1) = false := by rw [beq_eq_false_iff_ne]; exact h1
      have d2 : (v == 2) = false := by rw [beq_eq_false_iff_ne]; exact h2
      have d3 : (v == 3) = false := by rw [beq_eq_false_iff_ne]; exact h3
      have d4 : (v == 4) = false := by rw [beq_eq_false_iff_ne]; exact h4
      clear h0 h1 h2 h3 h4;have O9 : AA AW 8 27 w.heap.size (((((((y3.setCell (ja w.heap.size 0) (.bool m.up)).setCell (ja w.heap.size 1) (ji m.li)).setCell (ja w.heap.size 2) (ji m.ep)).setCell (ja w.heap.size 3) (.slice a m.lg.length c)).setCell (ja w.heap.size 4) (ji m.sd)).setCell (ja w.heap.size 5) (ji m.ac)).setCell (ja w.heap.size 6) (ji m.al)) (.slice a m.lg.length c) m.lg := (O.base (by omega)).keep (fun g_ e => Dd y3 w.heap.size g_ m _ (by have := lo g_ e; omega));have D9 : DV w cb ad len cap (((((((y3.setCell (ja w.heap.size 0) (.bool m.up)).setCell (ja w.heap.size 1) (ji m.li)).setCell (ja w.heap.size 2) (ji m.ep)).setCell (ja w.heap.size 3) (.slice a m.lg.length c)).setCell (ja w.heap.size 4) (ji m.sd)).setCell (ja w.heap.size 5) (ji m.ac)).setCell (ja w.heap.size 6) (ji m.al)) := ((((((D.set (Nat.le_refl _) hcb _).set (Nat.le_refl _) hcb _).set (Nat.le_refl _) hcb _).set (Nat.le_refl _) hcb _).set (Nat.le_refl _) hcb _).set (Nat.le_refl _) hcb _).set (Nat.le_refl _) hcb _;have sZ := D9.src hs;have gZ := D9.gr;obtain ⟨z0, z1, z2, z3, z4, z5, z6, zf⟩ := R;have g0 := zf 0;have g1 := zf 1;have g2 := zf 2;have g3 := zf 3;have g4 := zf 4;have g5 := zf 5;have g6 := zf 6;replace N := N.all;clear zf O D D9;go_wp2
      refine bodyPost_ret (v := .agg (mc m a c)) (by simp [results, results70, go_sem, *]) rfl ⟨m, a, c, rfl, ⟨by omega, hw⟩, O9, sZ, gZ⟩
    rotate_left
   rotate_left
  rotate_left 2
 rotate_left 3;all_goals
  clear nf kp hmm;go_upto_region 13 with fail
  rw [← hy6];clear hy6 n0 n1 n2 n3 n4 n5 n6 fj O;have N := N6;have O := O6;have lo := lo6;clear N6 O6 lo6;have O9 : AA AW 8 27 w.heap.size (((((((y6.setCell (ja w.heap.size 0) (.bool mm.up)).setCell (ja w.heap.size 1) (ji mm.li)).setCell (ja w.heap.size 2) (ji mm.ep)).setCell (ja w.heap.size 3) (.slice a mm.lg.length c)).setCell (ja w.heap.size 4) (ji mm.sd)).setCell (ja w.heap.size 5) (ji mm.ac)).setCell (ja w.heap.size 6) (ji mm.al)) (.slice a mm.lg.length c) mm.lg := (O.base (by omega)).keep (fun g_ e => Dd y6 w.heap.size g_ mm _ (by have := lo g_ e; omega));have D9 : DV w cb ad len cap (((((((y6.setCell (ja w.heap.size 0) (.bool mm.up)).setCell (ja w.heap.size 1) (ji mm.li)).setCell (ja w.heap.size 2) (ji mm.ep)).setCell (ja w.heap.size 3) (.slice a mm.lg.length c)).setCell (ja w.heap.size 4) (ji mm.sd)).setCell (ja w.heap.size 5) (ji mm.ac)).setCell (ja w.heap.size 6) (ji mm.al)) := ((((((D.set (Nat.le_refl _) hcb _).set (Nat.le_refl _) hcb _).set (Nat.le_refl _) hcb _).set (Nat.le_refl _) hcb _).set (Nat.le_refl _) hcb _).set (Nat.le_refl _) hcb _).set (Nat.le_refl _) hcb _;have sZ := D9.src hs;have gZ := D9.gr;obtain ⟨z0, z1, z2, z3, z4, z5, z6, zf⟩ := R;have g0 := zf 0;have g1 := zf 1;have g2 := zf 2;have g3 := zf 3;have g4 := zf 4;have g5 := zf 5;have g6 := zf 6;replace N := N.all;clear zf O D D9;go_wp2
  refine bodyPost_ret (v := .agg (mc mm a c)) (by simp [results, results70, go_sem, *]) rfl ⟨mm, a, c, rfl, ⟨hl6, hw6⟩, O9, sZ, gZ⟩
end Go.Proofs.YtjmnaeeknomiaaaGreatDoor
namespace Go.Proofs.YtjmnaeeknomiaaaGreatDoor
open Go.ChangeShapes Go.WideShapes Go.ChangeAt Go.RowKit
open Go.ChangeMaps (open_string shut_string)
set_option linter.unusedVariables false
set_option maxRecDepth 100000
set_option maxHeartbeats 32000000
set_option linter.unusedSimpArgs false
open Go.Proofs.Tryz
theorem HX {m : Mi} {x : Ik} {n : Nat} (h : m.lg.length ≤ n) : (AN m x).lg.length ≤ n + 1 := by
 unfold AN;split
 ·
  show (m.lg ++ [x]).length ≤ n + 1;simp only [List.length_append, List.length_cons, List.length_nil]; omega
 omega
def BV (n : Nat) (x : Bx) : Prop := x.two.length = 2 ∧ (∀ k, k < 2 → (x.two.getD k Mi.nil).lg.length ≤ n) ∧ x.net.length ≤ n ∧ x.ga.length ≤ n ∧ x.ln.length ≤ n ∧ x.sd.length ≤ n
theorem BV.setM {n : Nat} {x : Bx} (h : BV n x) (s : Int) {m : Mi} (hm : m.lg.length ≤ n) : BV n (ES x s m) := by
 obtain ⟨h1, h2, h3, h4, h5, h6⟩ := h;refine ⟨by show (x.two.set s.toNat m).length = 2; rw [List.length_set]; exact h1, fun k hk => ?_, h3, h4, h5, h6⟩;show ((x.two.set s.toNat m).getD k Mi.nil).lg.length ≤ n;rw [List.getD_eq_getElem?_getD, List.getElem?_set];by_cases e : s.toNat = k
 ·
  rw [if_pos e, if_pos (by omega)];exact hm
 rw [if_neg e];have := h2 k hk;rwa [List.getD_eq_getElem?_getD] at this
theorem BV.net {n : Nat} {x : Bx} (h : BV n x) {N : List Wi} (hN : N.length ≤ n) : BV n (Cr x N) := ⟨h.1, h.2.1, hN, h.2.2.2.1, h.2.2.2.2.1, h.2.2.2.2.2⟩
theorem BV.reg {n : Nat} {x : Bx} (h : BV n x) (r : Rg) : BV n (Ft x r) := h
theorem BV.up {n k : Nat} {x : Bx} (h : BV n x) (hk : n ≤ k) : BV k x := ⟨h.1, fun j hj => Nat.le_trans (h.2.1 j hj) hk, by have := h.2.2.1; omega, by have := h.2.2.2.1; omega, by have := h.2.2.2.2.1; omega, by have := h.2.2.2.2.2; omega⟩
theorem BV.lg_ {n : Nat} {x : Bx} (h : BV n x) (s : Int) : (AZ x s).lg.length ≤ n := by
 by_cases k : s.toNat < 2
 ·
  exact h.2.1 s.toNat k
 unfold AZ;have hn : x.two.length ≤ s.toNat := by have := h.1; omega
 rw [List.getD_eq_getElem?_getD, List.getElem?_eq_none hn];exact Nat.zero_le _
theorem BV.of {x : Bx} (h : BA x = true) : BV 60 x := by
 obtain ⟨_, _, h3, h4, h5, _, h7, h8, h9, h10⟩ := Eb.1 h;obtain ⟨hn, _⟩ := Eb.1 h;refine ⟨h3, fun k hk => ?_, by omega, ?_, ?_, by omega⟩
 ·
  rcases (by omega : k = 0 ∨ k = 1) with rfl | rfl
  ·
   exact Ei h4
  exact Ei h5
 ·
  unfold Au at hn;simp only [Bool.and_eq_true, decide_eq_true_eq] at hn;omega
 unfold DN at h9;simp only [Bool.and_eq_true, decide_eq_true_eq] at h9;exact h9.2
theorem BV.acc {n : Nat} {x : Bx} (h : BV n x) (hn : 40 ≤ n) (s : Int) (O : List Ou) : BV n (Cd x s O) := by
 unfold Cd;split
 ·
  exact ⟨h.1, h.2.1, h.2.2.1, by show (O.foldl Ed x.ga).length ≤ n; rw [Ha]; exact h.2.2.2.1, h.2.2.2.2.1, by have := JM (x.sd ++ O); show (Ey (x.sd ++ O)).length ≤ n; omega⟩
 exact h
theorem BV.line_ {n : Nat} {x : Bx} (h : BV n x) (k : Int) (y : Ik) : BV (n + 1) (ER x k y) := by
 unfold ER;split
 ·
  refine ⟨h.1, fun j hj => by have := h.2.1 j hj; show (x.two.getD j Mi.nil).lg.length ≤ n + 1; omega, by have := h.2.2.1; show x.net.length ≤ n + 1; omega, by have := h.2.2.2.1; show x.ga.length ≤ n + 1; omega, ?_, by have := h.2.2.2.2.2; show x.sd.length ≤ n + 1; omega⟩;show (x.ln ++ [y]).length ≤ n + 1;have := h.2.2.2.2.1;simp only [List.length_append, List.length_cons, List.length_nil];omega
 exact h.up (by omega)
theorem BV.take_ {n : Nat} {x : Bx} (h : BV n x) (d : De) : BV n (Cr x (x.net.take d.a.toNat ++ x.net.drop (d.a.toNat + 1))) := h.net (by
 have := h.2.2.1;simp only [List.length_append, List.length_take, List.length_drop];omega)
theorem BV.hear_ {n : Nat} {x : Bx} (h : BV n x) (w : Wi) : BV (n + 1) (Du x w) := by
 unfold Du;split
 ·
  exact (h.up (by omega)).setM _ (HX (h.lg_ _))
 exact h.up (by omega)
theorem BV.heard {n : Nat} {x : Bx} (h : BV n x) (w : Wi) : BV (n + 1) (Co x w) := by
 have hN := h.hear_ w;have hl := hN.2.2.1;have hu := h.up (show n ≤ n + 1 by omega);unfold Co;split
 ·
  exact hu
 split
 ·
  split
  ·
   exact hu.setM _ (hu.lg_ _)
  exact hu
 split
 ·
  exact hu
 split
 ·
  refine hN.net ?_;have := h.2.2.1;simp only [List.length_append, List.length_cons, List.length_nil];omega
 exact hN
theorem BV.one {x : Bx} (h : BV 60 x) (d : De) : BV 62 (DE x d).1 := by
 have hu := h.up (show 60 ≤ 62 by omega);have hn := h.2.2.1;unfold DE;split
 ·
  unfold Eu;split
  ·
   exact hu
  split
  ·
   exact hu.setM _ (Nat.le_trans (HX (h.lg_ _)) (by omega))
  exact hu
 split
 ·
  unfold Ef;split
  ·
   exact hu
  exact (((h.acc (by omega) _ _).line_ _ _).up (by omega)).setM _ (hu.lg_ _)
 split
 ·
  unfold Dh;split
  ·
   exact hu
  split
  ·
   split
   ·
    exact hu
   refine hu.net ?_;simp only [List.length_append, List.length_cons, List.length_nil];omega
  split
  ·
   exact ((h.take_ d).heard _).up (by omega)
  exact hu.take_ d
 split
 ·
  exact hu
 split
 ·
  unfold Ew;split
  ·
   exact hu
  split
  ·
   exact hu
  refine hu.net ?_;simp only [List.length_append, List.length_cons, List.length_nil];omega
 split
 ·
  unfold Dw;split
  ·
   exact hu.setM _ (Nat.zero_le _)
  split
  ·
   exact hu.setM _ (Nat.zero_le _)
  exact hu
 unfold Eo;split
 ·
  split
  ·
   exact hu
  split
  ·
   exact hu
  refine (hu.reg _).setM _ ?_;exact hu.lg_ d.a
 split <;> split <;> first | exact hu.reg _ | exact hu
theorem AL.smV {base n : Nat} {w : World} {x : AF} (h : AL base w x) (hs : BV n x.p) (hn : n ≤ 1000) : Ck w x := by
 obtain ⟨h1, h2, h3, h4, h5, h6⟩ := hs;have e2 : x.two.length = 2 := by have h1 : (x.two.map AD.m).length = 2 := h1; simpa using h1
 refine h.view (by omega) (fun i hi => ?_) (by have h3 : x.net.length ≤ n := h3; omega) (by have h4 : x.ga.length ≤ n := h4; omega) (by have h5 : x.ln.length ≤ n := h5; omega) (by have h6 : x.sd.length ≤ n := h6; omega);have := h2 i (by omega);have e := Ch x (i : Int);unfold AZ at e;simp only [Int.toNat_natCast] at e;rw [e] at this;omega
attribute [local go_sem] ji ja bc
def DX (d : De) : List Value := [ji d.k, ji d.a, ji d.x.k, ji d.x.q, ji d.x.r, ji d.x.c, ji d.x.b, ji d.x.p, ji d.x.h, .bool d.x.up]
theorem JV (d : De) : (DX d).length = 10 := rfl
theorem JF (L : List De) : ∀ u ∈ AT DX L, u.oneCell' = true := by
 induction L with
 | nil => intro u h; cases h
 | cons x L ih =>
  intro u h;simp only [AT, DX, List.mem_append, List.mem_cons, List.not_mem_nil, or_false] at h;rcases h with (rfl | rfl | rfl | rfl | rfl | rfl | rfl | rfl | rfl | rfl) | h
  ·
   rfl
  ·
   rfl
  ·
   rfl
  ·
   rfl
  ·
   rfl
  ·
   rfl
  ·
   rfl
  ·
   rfl
  ·
   rfl
  ·
   rfl
  exact ih u h
theorem K8 : (prog.info? 210).map (fun i => (i.zero, i.size, i.bytes)) = some (some (.agg #[ji 0, ji 0, ji 0, ji 0, ji 0, ji 0, ji 0, ji 0, ji 0, .bool false]), 10, 80) := by kernel_rfl
theorem AI.oneDe (w : World) (t : TypeId) (d : De) : AI DX (w.alloc (Obj.cells #[ji d.k, ji d.a, ji d.x.k, ji d.x.q, ji d.x.r, ji d.x.c, ji d.x.b, ji d.x.p, ji d.x.h, .bool d.x.up] t)) (some (ja w.heap.size 0)) [d] := by
 intro _;refine ⟨w.heap.size, 0, rfl, fun j u hv => ?_⟩;simp only [AT, DX, List.append_nil] at hv;have hj : j < 10 := (List.getElem?_eq_some_iff.1 hv).1;rcases (by omega : j = 0 ∨ j = 1 ∨ j = 2 ∨ j = 3 ∨ j = 4 ∨ j = 5 ∨ j = 6 ∨ j = 7 ∨ j = 8 ∨ j = 9) with rfl | rfl | rfl | rfl | rfl | rfl | rfl | rfl | rfl | rfl <;> (cases hv; simp [go_sem])
theorem AL.rowT {base : Nat} {w w' : World} {x : AF} (h : AL base w x) {X : Type} {enc : X → List Value} {n : Nat} {T : TypeId} {b : Nat} {v : Value} {L : List X} (f : AA enc n T b w v L) (t1 : T ≠ 54) (t2 : T ≠ 27) (t3 : T ≠ 164) (t4 : T ≠ 4) (t5 : T ≠ 41) (g : w.grownBy w' v.ownBlock) : AL base w' x :=
 ⟨h.t.keep (fun g_ e => g.block g_ (h.t.lt g_ e).2 (fun e2 => f.apart h.t t1 e2.symm e)), fun i hi => (h.l i hi).keep (fun g_ e => g.block g_ ((h.l i hi).lt g_ e).2 (fun e2 => f.apart (h.l i hi) t2 e2.symm e)), h.n.keep (fun g_ e => g.block g_ (h.n.lt g_ e).2 (fun e2 => f.apart h.n t3 e2.symm e)), h.g.keep (fun g_ e => g.block g_ (h.g.lt g_ e).2 (fun e2 => f.apart h.g t4 e2.symm e)), h.i.keep (fun g_ e => g.block g_ (h.i.lt g_ e).2 (fun e2 => f.apart h.i t2 e2.symm e)), h.s.keep (fun g_ e => g.block g_ (h.s.lt g_ e).2 (fun e2 => f.apart h.s t5 e2.symm e)), h.ap⟩
theorem AL.cur {base cb : Nat} {w w' : World} {x : AF} (h : AL base w x) (g : w.grownBy w' (some cb)) (hb : cb < base) : AL base w' x :=
 h.keep (fun g_ a b => g.block g_ b (by simp; omega))
theorem JW {x : AF} (h : BA x.p = true) : x.po ≤ 4 ∧ x.net.length ≤ 20 ∧ (0 ≤ x.rg.ow ∧ x.rg.ow ≤ 1) := by
 obtain ⟨h1, h2, h3, h4, h5, h6, h7, h8, h9, h10⟩ := Eb.1 h;have h1 : Au x.id x.po = true := h1;have h2 : CB x.rg = true := h2;unfold Au at h1;unfold CB at h2;simp only [Bool.and_eq_true, decide_eq_true_eq] at h1 h2;exact ⟨by omega, h7, by omega⟩
structure Cj (w : World) (cb : Nat) (ad : Option Addr) (len cap p7 p9 : Nat) (s x : AF) (W : World) : Prop where
 D : DV w cb ad len cap W
 Z4 : Aj W w.heap.size
 Z6 : Aj W (w.heap.size + 1)
 A7 : AS W p7 s
 A9 : AS W p9 x
 O : AL w.heap.size W x
 h7 : w.heap.size + 1 < p7
 h9 : p7 < p9
theorem Cj.later {w W : World} {cb : Nat} {ad : Option Addr} {len cap p7 p9 : Nat} {s x : AF} {W2 : World} (h : Cj w cb ad len cap p7 p9 s x W) (k : Bw W W2) : Cj w cb ad len cap p7 p9 s x W2 :=
 ⟨h.D.later8 k, h.Z4.keep (k.block _ h.Z4.lt_), h.Z6.keep (k.block _ h.Z6.lt_), h.A7.below k h.A7.lt, h.A9.below k h.A9.lt, h.O.later k, h.h7, h.h9⟩
theorem Cj.step {w W : World} {cb : Nat} {ad : Option Addr} {len cap p7 p9 : Nat} {s x : AF} {W2 : World} {f : Nat → Int} (h : Cj w cb ad len cap p7 p9 s x W) (hcb : cb < w.heap.size) (s_ : At W2 cb ad len cap f) (g : W.grownBy W2 (some cb)) : Cj w cb ad len cap p7 p9 s x W2 :=
 ⟨h.D.step s_ g, h.Z4.keep (g.block _ h.Z4.lt_ (by simp; omega)), h.Z6.keep (g.block _ h.Z6.lt_ (by simp; omega)), h.A7.keep (g.block _ h.A7.lt (by have := h.h7; simp; omega)), h.A9.keep (g.block _ h.A9.lt (by have := h.h7; have := h.h9; simp; omega)), h.O.cur g hcb, h.h7, h.h9⟩
theorem Cj.row {w W : World} {cb : Nat} {ad : Option Addr} {len cap p7 p9 : Nat} {s x : AF} {W2 : World} {v : Value} {L : List De} (h : Cj w cb ad len cap p7 p9 s x W) (hcb : cb < w.heap.size) (f : AA DX 10 210 (p9 + 1) W v L) (g : W.grownBy W2 v.ownBlock) : Cj w cb ad len cap p7 p9 s x W2 := by
 have ho : ∀ k, v.ownBlock = some k → p9 + 1 ≤ k := fun k e => (f.lt k e).1
 have h7 := h.h7;have h9 := h.h9;have kp : ∀ q, q < W.heap.size → q < p9 + 1 → W2.heap[q]? = W.heap[q]? := fun q a b => g.block q a (fun e => by have := ho q e.symm; omega)
 exact ⟨⟨h.D.cur.carry (kp _ h.D.cur.lt (by omega)), HZ h.D.gr g (fun k e => by have := ho k e; omega)⟩, h.Z4.keep (kp _ h.Z4.lt_ (by omega)), h.Z6.keep (kp _ h.Z6.lt_ (by omega)), h.A7.keep (kp _ h.A7.lt (by omega)), h.A9.keep (kp _ h.A9.lt (by omega)), h.O.rowT f (by decide) (by decide) (by decide) (by decide) (by decide) g, h7, h9⟩
theorem DV.put10_ {w W : World} {cb : Nat} {ad : Option Addr} {len cap q : Nat} (z : AF) (h : DV w cb ad len cap W) (hq : w.heap.size ≤ q) (hcb : cb < w.heap.size) : DV w cb ad len cap ((((((((((W.setCell (ja q 0) (ji z.id)).setCell (ja q 1) (ji z.po)).setCell (ja q 2) (ji z.rg.ep)).setCell (ja q 3) (ji z.rg.ow)).setCell (ja q 4) (ji z.rg.pa)).setCell (ja q 5) (.slice z.aT z.two.length z.cT)).setCell (ja q 6) (.slice z.aN z.net.length z.cN)).setCell (ja q 7) (.slice z.aG z.ga.length z.cG)).setCell (ja q 8) (.slice z.aL z.ln.length z.cL)).setCell (ja q 9) (.slice z.aS z.sd.length z.cS)) :=
 ((((((((((h.set hq hcb _).set hq hcb _).set hq hcb _).set hq hcb _).set hq hcb _).set hq hcb _).set hq hcb _).set hq hcb _).set hq hcb _).set hq hcb _)
theorem Cj.put {w W : World} {cb : Nat} {ad : Option Addr} {len cap p7 p9 : Nat} {s x : AF} {base : Nat} (h : Cj w cb ad len cap p7 p9 s x W) (hcb : cb < w.heap.size) (z : AF) (hz : AL base W z) (hb : p9 < base) : Cj w cb ad len cap p7 p9 s z ((((((((((W.setCell (ja p9 0) (ji z.id)).setCell (ja p9 1) (ji z.po)).setCell (ja p9 2) (ji z.rg.ep)).setCell (ja p9 3) (ji z.rg.ow)).setCell (ja p9 4) (ji z.rg.pa)).setCell (ja p9 5) (.slice z.aT z.two.length z.cT)).setCell (ja p9 6) (.slice z.aN z.net.length z.cN)).setCell (ja p9 7) (.slice z.aG z.ga.length z.cG)).setCell (ja p9 8) (.slice z.aL z.ln.length z.cL)).setCell (ja p9 9) (.slice z.aS z.sd.length z.cS)) := by
 have h7 := h.h7;have h9 := h.h9;have kp : ∀ k, k ≠ p9 → ((((((((((W.setCell (ja p9 0) (ji z.id)).setCell (ja p9 1) (ji z.po)).setCell (ja p9 2) (ji z.rg.ep)).setCell (ja p9 3) (ji z.rg.ow)).setCell (ja p9 4) (ji z.rg.pa)).setCell (ja p9 5) (.slice z.aT z.two.length z.cT)).setCell (ja p9 6) (.slice z.aN z.net.length z.cN)).setCell (ja p9 7) (.slice z.aG z.ga.length z.cG)).setCell (ja p9 8) (.slice z.aL z.ln.length z.cL)).setCell (ja p9 9) (.slice z.aS z.sd.length z.cS)).heap[k]? = W.heap[k]? := fun k hk => Ak W p9 k z hk
 exact ⟨h.D.put10_ z (by omega) hcb, h.Z4.keep (kp _ (by omega)), h.Z6.keep (kp _ (by omega)), h.A7.keep (kp _ (by omega)), h.A9.put z, (hz.keep (fun g a _ => kp g (by omega))).base (by omega), h7, h9⟩
def Ke (w : World) (cb : Nat) (ad : Option Addr) (len cap : Nat) (f : Nat → Int) (e : Ending) (w' : World) : Prop :=
 ∃ (s x : AF) (v : Value), e = .returned (.tuple #[.agg (bc s), v, .agg (bc x)]) ∧ BA x.p = true ∧ AL w.heap.size w' x ∧ At w' cb ad len cap f ∧ w.grownBy w' (some cb)
def LH (w : World) (cb : Nat) (ad : Option Addr) (len cap : Nat) (f : Nat → Int) (e : Ending) (w' : World) : Prop :=
 ∃ x : AF, e = .returned (.agg (bc x)) ∧ BA x.p = true ∧ AL w.heap.size w' x ∧ At w' cb ad len cap f ∧ w.grownBy w' (some cb)
end Go.Proofs.YtjmnaeeknomiaaaGreatDoor
namespace Go.Proofs.YtjmnaeeknomiaaaGreatDoor
open Go.ChangeShapes Go.WideShapes Go.ChangeAt Go.RowKit
open Go.ChangeMaps (open_string shut_string)
set_option linter.unusedVariables false
set_option maxRecDepth 100000
set_option maxHeartbeats 32000000
set_option linter.unusedSimpArgs false
open Go.Proofs.Tryz
theorem JQ (id : Int) (ad : Option Addr) (cap : Nat) (L : List Pt) (w : World) (hv : AI AK w ad L) (hl : L.length ≤ 1048576) :
  Calls prog 140 #[.agg #[ji id, .slice ad L.length cap]] w fun e w' => ∃ a c, e = .returned (.slice a L.length c) ∧ AA Bz 1 4 w.heap.size w' (.slice a L.length c) (CE L) ∧ Bw w w' := by
 obtain ⟨j0, hj, hj0, hj1, hj2⟩ := info_parts IS;obtain ⟨y, hy, B0⟩ := AM w (Obj.cells #[ji id, .slice ad L.length cap] 51);have A : Ap y w.heap.size id (.slice ad L.length cap) := by rw [hy]; exact Ap.new w _ _ _
 have hB := hv.lt AV (by omega);have hV := hv.below B0 hB;have hB := hV.lt AV (by omega);have S0 := A.lt;clear hv;obtain ⟨y2, hy2, B1⟩ := AM y (Obj.cells #[] 4);have O0 : AA Bz 1 4 y.heap.size y2 (.slice (some (ja y.heap.size 0)) 0 0) (CE (L.take 0)) := by
  rw [hy2]; exact AA.empty y
 go_enter func140, ntmps140
 go_upto_region 1 with fail
 rw [← hy];clear hy;go_upto_region 2 with fail
 rw [← hy2];clear hy2;go_wp2
 go_loopw [3, 4] (fun v q wr => ∃ k : Nat, k ≤ L.length ∧ q = .int .i64 (k : Int) ∧ AA Bz 1 4 y.heap.size wr v (CE (L.take k)) ∧ Below y.heap.size y wr) (fun _ q _ => L.length - (intOf q).toNat)
 case atStart => exact ⟨0, Nat.zero_le _, rfl, O0, B1⟩
 case round =>
  obtain ⟨k, hk1, rfl, O, kb⟩ := hrel;clear O0 B1;have hA := A.below kb S0;obtain ⟨x1, x2⟩ := hA;by_cases hlt : k < L.length
  ·
   have hst := I2 L hlt;obtain ⟨b, off, rfl, _⟩ := hV (by omega);obtain ⟨h, hh⟩ : ∃ h, L.getD k Pt.nil = h := ⟨_, rfl⟩;have hck : CA wr b (off + k * 11) h := by
    rw [← hh];exact CP ((hV.below kb hB).at_ AV Pt.nil hlt)
   rw [hh] at hst;have hop := hck.c10;clear hck hh;obtain ⟨M, hM⟩ : ∃ M, CE (L.take k) = M := ⟨_, rfl⟩;have hMl : M.length ≤ k := by rw [← hM, Fy]; simp; omega
   rw [hM] at O hst;clear hM;obtain ⟨ak, ck2, rfl⟩ := O.open_;replace hst : Hid _ := hst;have V1 := AI.oneB wr 4 h.op;have kx : Bw wr (wr.alloc (Obj.cells #[.bool h.op] 4)) := Ax _;have O4 := O.later kx;have b4 := AG kb kx;have s4 := b4.size;clear kx;go_wp2_with (first | (at_builtin; refine En EE HQ rfl _ _ 60 rfl y.heap.size 4 j0 (.bool false) 1 underlying60 hj hj0 hj1 hj2 rfl (by decide) (by decide) (.slice ak M.length ck2) M rfl O4 (some (ja wr.heap.size 0)) 1 [h.op] rfl (fun e => by cases e) V1 ?z0 ?z1 ?_) | go_in)
   case z0 => first | omega | (simp; omega)
   case z1 => first | omega | (simp; omega)
   intro vZ wZ hownZ hgrowZ _;have hob : ∀ q, (Value.slice ak M.length ck2).ownBlock = some q → y.heap.size ≤ q := fun q e => (O4.lt q e).1
   have bZ : Bw y wZ := b4.grown hgrowZ (by exact s4) hob;clear hgrowZ V1 O4 hob O b4;go_wp2
   go_roundw
   case rel => exact ⟨k + 1, by omega, by go_num, by rw [hst.out]; exact hownZ, bZ⟩
   case measure => simp [intOf]; omega
  obtain rfl : k = L.length := by omega
  rw [List.take_length] at O;obtain ⟨ak, ck2, rfl⟩ := O.open_;have OZ := O.base B0.size;rw [Fy] at OZ ⊢;have bZ := AG B0 kb;go_wp2
  go_ret
  exact ⟨_, _, rfl, OZ, bZ⟩
theorem Jx (id : Int) (ad : Option Addr) (cap : Nat) (L : List Pt) (w : World) (hv : AI AK w ad L) (hl : L.length ≤ 1048576) :
  Calls prog 140 #[.agg #[ji id, .slice ad L.length cap]] w fun e w' => ∃ a c, e = .returned (.slice a (CE L).length c) ∧ AA Bz 1 4 w.heap.size w' (.slice a (CE L).length c) (CE L) ∧ Bw w w' := by
 rw [Fy];exact JQ id ad cap L w hv hl
attribute [local go_sem] ji ja bc
structure Iu (B : Nat) (x : AF) : Prop where
 t : ∀ a, x.aT = some a → 0 < x.two.length → B ≤ a.block
 l : ∀ i, i < x.two.length → ∀ a, (x.two.getD i AD.nil).ad = some a → 0 < (x.two.getD i AD.nil).m.lg.length → B ≤ a.block
 n : ∀ a, x.aN = some a → 0 < x.net.length → B ≤ a.block
 g : ∀ a, x.aG = some a → 0 < x.ga.length → B ≤ a.block
 i : ∀ a, x.aL = some a → 0 < x.ln.length → B ≤ a.block
 s : ∀ a, x.aS = some a → 0 < x.sd.length → B ≤ a.block
theorem EA.keptN {w w' : World} {x : AF} {n : Nat} (h : EA w x) (hin : Iu n x) (k : ∀ g, n ≤ g → w'.heap[g]? = w.heap[g]?) : EA w' x :=
 ⟨⟨h.t.row.carry (fun a e p => k _ (hin.t a e p)), fun i hi => (h.t.nest i hi).carry (fun a e p => k _ (hin.l i hi a e p)), h.t.nil0⟩, h.tm, h.ts, h.tc, h.tn, h.n.carry (fun a e p => k _ (hin.n a e p)), h.nm, h.nn, h.g.carry (fun a e p => k _ (hin.g a e p)), h.gm, h.gn, h.i.carry (fun a e p => k _ (hin.i a e p)), h.im, h.ic, h.s.carry (fun a e p => k _ (hin.s a e p)), h.sm, h.sn⟩
theorem LP (id po : Int) (w : World) :
  Calls prog 132 #[ji id, ji po] w fun e w' => ∃ x2 : AF, (e = .returned (.tuple #[.agg (bc x2), .bool (Au id po)]) ∧ x2.p = Ff id po ∧ FL x2) ∧ EA w' x2 ∧ Bw w w' := by
 obtain ⟨y, hy, B0⟩ := AM w (Obj.cells #[ji 0, ji 0, ji 0, ji 0, ji 0, .slice none 0 0, .slice none 0 0, .slice none 0 0, .slice none 0 0, .slice none 0 0] 63);have Z : AS y w.heap.size AF.zero := by rw [hy]; refine ⟨?_, fun i => ?_⟩; constructor <;> simp [go_sem, AF.zero]; simp [go_sem]
 go_enter func132, ntmps132
 go_wp2_with fail
 go_at_call 96
 rw [← hy];clear hy;refine (GM id po y).mono ?_;rintro e u0 ⟨ad', cap', rfl, O', k0⟩;have Z := Z.below k0 Z.lt;have B1 := AG B0 k0;have s0 := k0.size;have zl := Z.lt;clear k0 B0;obtain ⟨u1, hu1, kk⟩ := AM u0 (Obj.cells #[ji (Bp id po), .slice ad' (Ao id po).length cap'] 51);have BB : Ap u1 u0.heap.size (Bp id po) (.slice ad' (Ao id po).length cap') := by rw [hu1]; exact Ap.new u0 _ _ _
 have Z := Z.below kk Z.lt;have O' := O'.later kk;have B2 := AG B1 kk;have s1 := BB.lt;clear kk B1;go_upto_region 2 with fail
 rw [← hu1];clear hu1;obtain ⟨qb, hqb⟩ := AC u0.heap.size;rw [← hqb] at BB s1 ⊢;replace hqb := Nat.le_of_eq hqb.symm;obtain ⟨bb0, bb1⟩ := _root_.id BB;go_wp2_with fail
 go_at_call 140
 clear bb0 bb1;refine (Jx (Bp id po) ad' cap' (Ao id po) u1 O'.view.2 (Nat.le_trans (H7 id po) (by omega))).mono ?_;rintro e u2 ⟨aG, cG, rfl, OG, k2⟩;have lG : ∀ g, (Value.slice aG (CE (Ao id po)).length cG).ownBlock = some g → g < u2.heap.size := fun g e => (OG.lt g e).2
 have Z := Z.below k2 Z.lt;have B3 := AG B2 k2;have s2 := k2.size;clear k2 B2 BB O';obtain ⟨u3, hu3, kk⟩ := AM u2 (Obj.cells #[ji id, ji po, ji 1, ji 0, ji 0, .slice none 0 0, .slice none 0 0, .slice aG (CE (Ao id po)).length cG, .slice none 0 0, .slice none 0 0] 63);have Hb : AS u3 u2.heap.size ⟨id, po, ⟨1, 0, 0⟩, [], none, 0, [], none, 0, CE (Ao id po), aG, cG, [], none, 0, [], none, 0⟩ := by rw [hu3]; refine ⟨?_, fun i => ?_⟩; constructor <;> simp [go_sem]; simp [go_sem]
 have Z := Z.below kk Z.lt;have OG := OG.later kk;have B4 := AG B3 kk;have s3 := Hb.lt;clear kk B3;go_upto_region 3 with fail
 rw [← hu3];clear hu3;obtain ⟨qh, hqh⟩ := AC u2.heap.size;rw [← hqh] at Hb s3 ⊢;have hqh1 := Nat.le_of_eq hqh;replace hqh := Nat.le_of_eq hqh.symm;have Hb3 := Hb;obtain ⟨u4, hu4⟩ := AC (u3.setCell (ja qh 5) (.slice (some (ja u3.heap.size 0)) 2 2));have Hc := Hb.sT Cq (some (ja u3.heap.size 0)) 2 2 rfl;rw [← hu4] at Hc;have kp : ∀ k, k ≠ qh → u4.heap[k]? = u3.heap[k]? := fun k hk => by rw [hu4, AE hk]
 have Z := Z.keep (kp _ (by omega));have OG := OG.keep (fun g e => kp g (by have := lG g e; omega));have B5 : Bw w u4 := by rw [hu4]; exact B4.setCell (p := (ja qh 5)) (by show _ ≤ qh; omega) _
 have s45 : u4.heap.size = u3.heap.size := by rw [hu4]; simp
 obtain ⟨u5, hu5, kk⟩ := AM u4 (Obj.cells #[.bool true, ji 1, ji 1, .slice none 0 0, ji 0, ji 0, ji 0, .bool true, ji 2, ji 0, .slice none 0 0, ji 0, ji 0, ji 0] 54);have OT : Er u4.heap.size (u4.heap.size + 1) u5 (.slice (some (ja u4.heap.size 0)) 2 2) Cq := by rw [hu5]; exact Kf u4
 have Z := Z.below kk Z.lt;have Hc := Hc.below kk Hc.lt;have OG := OG.later kk;have B6 := AG B5 kk;have s4 : u4.heap.size < u5.heap.size := by rw [hu5]; simp
 rw [s45] at OT s4;replace s45 := Nat.le_of_eq s45;clear kk B4 kp Hb;obtain ⟨⟨h0, h1, h2, h3, h4, h5, h6, h7, h8, h9⟩, hf⟩ := Hb3;have hf5 := hf 5;clear hf;go_upto_region 4 with fail
 rw [← hu4, ← hu5];clear hu4 hu5 h0 h1 h2 h3 h4 h5 h6 h7 h8 h9 hf5 B5;obtain ⟨q2, hq2⟩ := AC u3.heap.size;rw [← hq2] at Hc OT s4 ⊢;replace hq2 := Nat.le_of_eq hq2.symm;have J : EA u5 ⟨id, po, ⟨1, 0, 0⟩, Cq, some (ja q2 0), 2, [], none, 0, CE (Ao id po), aG, cG, [], none, 0, [], none, 0⟩ := by
  have hv := OT.view.2;exact ⟨hv, by show (2 : Nat) ≤ _; unfold maxLen; omega, fun i hi => Nat.le_trans ((GE id po q2 aG cG).ls i hi) (by unfold maxLen; omega), Nat.le_refl _, (fun e => by cases e), AI.nil, Nat.zero_le _, fun _ => rfl, OG.view.2, Nat.le_trans (GE id po q2 aG cG).g (by unfold maxLen; omega), fun e => FC (by have e1 : aG = none := e; have := OG; rw [e1] at this; exact this), AI.nil, Nat.zero_le _, fun _ => rfl, AI.nil, Nat.zero_le _, fun _ => rfl⟩
 have hap : Iu (w.heap.size + 1) ⟨id, po, ⟨1, 0, 0⟩, Cq, some (ja q2 0), 2, [], none, 0, CE (Ao id po), aG, cG, [], none, 0, [], none, 0⟩ := by
  refine ⟨fun a e _ => ?_, fun i hi a e _ => ?_, fun a e => (by cases e), fun a e p => ?_, fun a e => (by cases e), fun a e => (by cases e)⟩
  ·
   cases e; show _ ≤ q2; omega
  ·
   match i, hi, e with
   | 0, _, e => cases e
   | 1, _, e => cases e
  have e : aG = some a := e;have hg := OG.lt a.block (by rw [e]; rfl);omega
 obtain ⟨⟨h0, h1, h2, h3, h4, h5, h6, h7, h8, h9⟩, hf⟩ := _root_.id Hc;go_wp2_with fail
 go_at_call 136
 clear h0 h1 h2 h3 h4 h5 h6 h7 h8 h9 hf;refine (IR ⟨id, po, ⟨1, 0, 0⟩, Cq, some (ja q2 0), 2, [], none, 0, CE (Ao id po), aG, cG, [], none, 0, [], none, 0⟩ u5 (J.v (GE id po q2 aG cG))).mono ?_;rintro e u6 ⟨rfl, k6⟩;rw [IH, JL];have Z := Z.below k6 Z.lt;have Hc := Hc.below k6 Hc.lt;have J := J.below k6;have B7 := AG B6 k6;have s6 := k6.size;clear k6 B6 OT OG;cases h1 : Au id po
 ·
  have hX : Hid (Ff id po = AF.zero.p) := by unfold Hid Ff; rw [h1]; rfl
  replace h1 : Hid _ := h1;obtain ⟨W9, hW9⟩ := AC ((((((((((u6.setCell (ja w.heap.size 0) (ji 0)).setCell (ja w.heap.size 1) (ji 0)).setCell (ja w.heap.size 2) (ji 0)).setCell (ja w.heap.size 3) (ji 0)).setCell (ja w.heap.size 4) (ji 0)).setCell (ja w.heap.size 5) (.slice none 0 0)).setCell (ja w.heap.size 6) (.slice none 0 0)).setCell (ja w.heap.size 7) (.slice none 0 0)).setCell (ja w.heap.size 8) (.slice none 0 0)).setCell (ja w.heap.size 9) (.slice none 0 0));have ZZ : AS W9 w.heap.size AF.zero := by rw [hW9]; exact Z.put AF.zero
  have kp : ∀ k, k ≠ w.heap.size → W9.heap[k]? = u6.heap[k]? := fun k hk => by rw [hW9, AE hk, AE hk, AE hk, AE hk, AE hk, AE hk, AE hk, AE hk, AE hk, AE hk]
  have B9 : Bw w W9 := by rw [hW9]; exact ((((((((((B7.setCell (p := (ja w.heap.size 0)) (Nat.le_refl _) _).setCell (p := (ja w.heap.size 1)) (Nat.le_refl _) _).setCell (p := (ja w.heap.size 2)) (Nat.le_refl _) _).setCell (p := (ja w.heap.size 3)) (Nat.le_refl _) _).setCell (p := (ja w.heap.size 4)) (Nat.le_refl _) _).setCell (p := (ja w.heap.size 5)) (Nat.le_refl _) _).setCell (p := (ja w.heap.size 6)) (Nat.le_refl _) _).setCell (p := (ja w.heap.size 7)) (Nat.le_refl _) _).setCell (p := (ja w.heap.size 8)) (Nat.le_refl _) _).setCell (p := (ja w.heap.size 9)) (Nat.le_refl _) _)
  have s9 : W9.heap.size = u6.heap.size := by rw [hW9]; simp
  have hM : EA W9 AF.zero := ((LJ (lo := 0) (hi := 0) (w := W9) (Nat.le_refl _)).m).in_ H0;obtain ⟨⟨t0, t1, t2, t3, t4, t5, t6, t7, t8, t9⟩, tf⟩ := ZZ;clear tf;try dsimp only [AF.zero] at t0 t1 t2 t3 t4 t5 t6 t7 t8 t9
  try rw [show Cq.length = 2 from rfl] at t5
  obtain ⟨⟨z0, z1, z2, z3, z4, z5, z6, z7, z8, z9⟩, zf⟩ := _root_.id Z;obtain ⟨e0, e1, e2, e3, e4, e5, e6, e7, e8, e9⟩ := CX zf;clear zf;go_wp2
  refine bodyPost_ret (v := .tuple #[.agg #[ji 0, ji 0, ji 0, ji 0, ji 0, .slice none 0 0, .slice none 0 0, .slice none 0 0, .slice none 0 0, .slice none 0 0], .bool false]) (by simp [results, results132, go_sem, *]) rfl ⟨AF.zero, ⟨by rw [h1.out]; rfl, hX.out.symm, H0⟩, ?_, ?_⟩
  ·
   rw [← hW9]; exact hM
  rw [← hW9]; exact B9
 have hX : Hid (Ff id po = Fb id po) := by unfold Hid Ff; rw [h1]; rfl
 replace h1 : Hid _ := h1;obtain ⟨⟨c0, c1, c2, c3, c4, c5, c6, c7, c8, c9⟩, cf⟩ := _root_.id Hc;clear cf;rw [show Cq.length = 2 from rfl] at c5;obtain ⟨W9, hW9⟩ := AC ((((((((((u6.setCell (ja w.heap.size 0) (ji id)).setCell (ja w.heap.size 1) (ji po)).setCell (ja w.heap.size 2) (ji 1)).setCell (ja w.heap.size 3) (ji 0)).setCell (ja w.heap.size 4) (ji 0)).setCell (ja w.heap.size 5) (.slice (some (ja q2 0)) 2 2)).setCell (ja w.heap.size 6) (.slice none 0 0)).setCell (ja w.heap.size 7) (.slice aG (CE (Ao id po)).length cG)).setCell (ja w.heap.size 8) (.slice none 0 0)).setCell (ja w.heap.size 9) (.slice none 0 0));have ZZ : AS W9 w.heap.size ⟨id, po, ⟨1, 0, 0⟩, Cq, some (ja q2 0), 2, [], none, 0, CE (Ao id po), aG, cG, [], none, 0, [], none, 0⟩ := by rw [hW9]; exact Z.put ⟨id, po, ⟨1, 0, 0⟩, Cq, some (ja q2 0), 2, [], none, 0, CE (Ao id po), aG, cG, [], none, 0, [], none, 0⟩
 have kp : ∀ k, k ≠ w.heap.size → W9.heap[k]? = u6.heap[k]? := fun k hk => by rw [hW9, AE hk, AE hk, AE hk, AE hk, AE hk, AE hk, AE hk, AE hk, AE hk, AE hk]
 have B9 : Bw w W9 := by rw [hW9]; exact ((((((((((B7.setCell (p := (ja w.heap.size 0)) (Nat.le_refl _) _).setCell (p := (ja w.heap.size 1)) (Nat.le_refl _) _).setCell (p := (ja w.heap.size 2)) (Nat.le_refl _) _).setCell (p := (ja w.heap.size 3)) (Nat.le_refl _) _).setCell (p := (ja w.heap.size 4)) (Nat.le_refl _) _).setCell (p := (ja w.heap.size 5)) (Nat.le_refl _) _).setCell (p := (ja w.heap.size 6)) (Nat.le_refl _) _).setCell (p := (ja w.heap.size 7)) (Nat.le_refl _) _).setCell (p := (ja w.heap.size 8)) (Nat.le_refl _) _).setCell (p := (ja w.heap.size 9)) (Nat.le_refl _) _)
 have s9 : W9.heap.size = u6.heap.size := by rw [hW9]; simp
 have hM : EA W9 ⟨id, po, ⟨1, 0, 0⟩, Cq, some (ja q2 0), 2, [], none, 0, CE (Ao id po), aG, cG, [], none, 0, [], none, 0⟩ := J.keptN hap (fun g hg => kp g (fun e => by omega));obtain ⟨⟨t0, t1, t2, t3, t4, t5, t6, t7, t8, t9⟩, tf⟩ := ZZ;clear tf;try dsimp only [AF.zero] at t0 t1 t2 t3 t4 t5 t6 t7 t8 t9
 try rw [show Cq.length = 2 from rfl] at t5
 obtain ⟨⟨z0, z1, z2, z3, z4, z5, z6, z7, z8, z9⟩, zf⟩ := _root_.id Z;obtain ⟨e0, e1, e2, e3, e4, e5, e6, e7, e8, e9⟩ := CX zf;clear zf;go_wp2
 refine bodyPost_ret (v := .tuple #[.agg #[ji id, ji po, ji 1, ji 0, ji 0, .slice (some (ja q2 0)) 2 2, .slice none 0 0, .slice aG (CE (Ao id po)).length cG, .slice none 0 0, .slice none 0 0], .bool true]) (by simp [results, results132, go_sem, *]) rfl ⟨⟨id, po, ⟨1, 0, 0⟩, Cq, some (ja q2 0), 2, [], none, 0, CE (Ao id po), aG, cG, [], none, 0, [], none, 0⟩, ⟨by rw [h1.out]; rfl, (IH id po q2 aG cG).trans hX.out.symm, GE id po q2 aG cG⟩, ?_, ?_⟩
 ·
  rw [← hW9]; exact hM
 rw [← hW9]; exact B9
theorem ED.new {w : World} {ad : Option Addr} {len cap : Nat} {h : Int} : ED (w.alloc (.cells #[.slice ad len cap, ji 0, ji h] 128)) w.heap.size ad len cap :=
 ⟨0, h, by omega, by omega, heap_alloc_new w _⟩
theorem GF (ad : Option Addr) (len cap : Nat) (f : Nat → Int) (w : World) (hv : E5 w ad len f) (hB : ∀ a, ad = some a → 0 < len → a.block < w.heap.size) (hl : len ≤ 1048576) (hf : ∀ i, 0 ≤ f i ∧ f i ≤ 255) :
  Calls prog 39 #[.slice ad len cap] w fun e w' => e = .returned (.pointer (some (ja w.heap.size 0))) ∧ At w' w.heap.size ad len cap f ∧ Bw w w' ∧ w'.heap.size = w.heap.size + 1 := by
 go_enter func39, ntmps39
 go_wp2
 go_loop [3, 4] (fun x i => ∃ (k : Nat) (h : Int), k ≤ len ∧ i = .int .i64 k ∧ x = .int .i64 h) (fun _ i => len - (intOf i).toNat)
 case atStart => exact ⟨0, _, Nat.zero_le _, rfl, rfl⟩
 case round =>
  obtain ⟨k, h, hk, rfl, rfl⟩ := hrel;by_cases hlt : k < len ∧ k < 4000
  ·
   obtain ⟨b, off, rfl, hc⟩ := hv (by omega);have hck := hc k hlt.1;have hfk := hf k;have hd0 : decide ((k : Int) < (len : Int)) = true := by simp; omega
   have hd1 : decide ((k : Int) < 4000) = true := by simp; omega
   have hk1 : k < len := hlt.1;clear hlt;go_wp2
   go_round
   case rel => exact ⟨k + 1, _, by omega, by go_num, rfl⟩
   case measure => simp [intOf]; omega
  have fin : ∀ h : Int, At (w.alloc (.cells #[.slice ad len cap, ji 0, ji h] 128)) w.heap.size ad len cap f := fun h =>
   ⟨ED.new, hv.carry (fun a e hp => ((Below.refl w.heap.size w).alloc (Nat.le_refl _) _).block _ (hB a e hp)), fun a e hp => Nat.ne_of_lt (hB a e hp), hl, hf⟩
  by_cases hk2 : k < len
  ·
   have hd0 : decide ((k : Int) < (len : Int)) = true := by simp; omega
   have hd1 : decide ((k : Int) < 4000) = false := by simp; omega
   clear hlt;go_wp2
   go_ret
   exact ⟨rfl, fin h, (Below.refl _ _).alloc (Nat.le_refl _) _, by simp⟩
  have hd0 : decide ((k : Int) < (len : Int)) = false := by simp; omega
  clear hlt;go_wp2
  go_ret
  exact ⟨rfl, fin h, (Below.refl _ _).alloc (Nat.le_refl _) _, by simp⟩
structure E3 (w : World) (ad : Option Addr) (len : Nat) (f : Nat → Int) : Prop where
 view : E5 w ad len f
 lt : ∀ a, ad = some a → 0 < len → a.block < w.heap.size
 small : len ≤ 1048576
 bytes : ∀ i, 0 ≤ f i ∧ f i ≤ 255
theorem E3.later {w w' : World} {ad : Option Addr} {len : Nat} {f : Nat → Int} (h : E3 w ad len f) {B : Nat} (hb : Below B w w') (hB : w.heap.size ≤ B) : E3 w' ad len f :=
 ⟨h.view.carry (fun a e hp => hb.block _ (Nat.lt_of_lt_of_le (h.lt a e hp) hB)), fun a e hp => Nat.lt_of_lt_of_le (h.lt a e hp) hb.size, h.small, h.bytes⟩
end Go.Proofs.YtjmnaeeknomiaaaGreatDoor
