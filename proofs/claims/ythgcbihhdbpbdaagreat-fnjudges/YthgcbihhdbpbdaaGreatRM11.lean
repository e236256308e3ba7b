import Derived.Deep.Grids
import Derived.Test.YthgcbihhdbpbdaaGreatRM14
import Derived.Test.YthgcbihhdbpbdaaGreatRM18
import Derived.Test.YthgcbihhdbpbdaaGreatRM22
namespace Go.Proofs.YthgcbihhdbpbdaaGreat
open Go.ChangeShapes Go.WideShapes Go.ChangeAt Go.RowKit
open Go.ChangeMaps (open_string shut_string)
set_option linter.unusedVariables false
set_option maxRecDepth 100000
set_option maxHeartbeats 32000000
set_option linter.unusedSimpArgs false
open Go.Proofs.Tryz
attribute [local go_sem] ji ja
theorem Gp {cb : Nat} {ad : Option Addr} {len cap : Nat} {f : Nat → Int} (w : World) (hs : BN w cb ad len cap f) (hcb : cb < w.heap.size) : Calls prog 80 #[.pointer (some (ja cb 0))] w fun e w' => IW w cb ad len cap f e w' := by
 obtain ⟨R, hRe⟩ := AB w.heap.size;have hR : w.heap.size ≤ R := by omega
 have hRc : R ≠ cb := by omega
 obtain ⟨x0, hx0⟩ := AB (w.alloc (Obj.cells #[ji 0, ji 0, ji 0, ji 0, ji 0, ji 0, ji 0, .bool false] 64));have D0 : DV w cb ad len cap x0 := by rw [hx0]; exact (DV.start hs).alloc _
 have Z0 : Cf x0 R ⟨0, 0, 0, 0, 0, 0, 0, false⟩ := by rw [hx0, hRe]; exact ⟨A8.new w _ ⟨0, 0, 0, 0, 0, 0, 0, false⟩, fun i => by simp [go_sem]⟩
 go_enter func80, ntmps80
 go_wp2_with fail
 go_at_call 88
 rw [← hx0, ← hRe];clear hx0 hRe;refine (KQ x0 (D0.src hs) D0.cur.lt).mono ?_;rintro e y1 ⟨⟨k, q, r, c, b, p, h, up⟩, rfl, s1, g1, b8⟩;have D1 := D0.step s1 g1;have Z1 := Z0.grown g1 hRc;unfold B8 at b8;dsimp only at b8 ⊢;obtain ⟨b1, b2, b3, b4, b5, b6⟩ := b8;obtain ⟨Q, hQ⟩ := AB y1.heap.size;obtain ⟨y2, hy2, k2⟩ := AI y1 (Obj.cells #[ji k, ji q, ji r, ji c, ji b, ji p, ji h, .bool up] 64);have Q2 : Cf y2 Q ⟨k, q, r, c, b, p, h, up⟩ := by rw [hy2, hQ]; exact ⟨A8.new y1 _ ⟨k, q, r, c, b, p, h, up⟩, fun i => by simp [go_sem]⟩
 have D2 := D1.later8 k2;have Z2 : Cf y2 R ⟨0, 0, 0, 0, 0, 0, 0, false⟩ := Z1.keep (k2.block _ Z1.at_.lt);have lQ : w.heap.size ≤ Q := by rw [hQ]; exact D1.gr.size
 have lQR : Q ≠ R := by have := Z1.at_.lt; omega
 have lQc : Q ≠ cb := by omega
 go_wp2_with fail
 go_at_call 38
 rw [← hy2, ← hQ];clear hy2 hQ k2 D0 Z0 Z1 D1 s1 g1;refine (Bz (D2.src hs) 12 (by decide) (by decide)).mono ?_;rintro e y3 ⟨t, rfl, t0_, t1_, s3, g3⟩;have D3 := D2.step s3 g3;have Q3 := Q2.grown g3 lQc;have Z3 := Z2.grown g3 hRc;clear D2 Q2 Z2 s3 g3;by_cases e0 : t = 0
 ·
  subst e0;go_wp2_with fail
  go_at_call 38
  refine (Bz (D3.src hs) 6 (by decide) (by decide)).mono ?_;rintro e y4 ⟨n, rfl, n0, n1, s4, g4⟩;have D4 := D3.step s4 g4;have Q4 := Q3.grown g4 lQc;have Z4 := Z3.grown g4 hRc;clear D3 Q3 Z3 s4 g4;obtain ⟨y5, hst⟩ := AB (y4.setCell (ja Q 0) (ji (n - 1)));have D5 : DV w cb ad len cap y5 := by rw [hst]; exact D4.set (N := Q) (i := 0) (by omega) hcb _
  have QN : Cf y5 Q ⟨(n - 1), q, r, c, b, p, h, up⟩ := by rw [hst]; exact ⟨⟨Aj Q4.at_.c0, (AC (by decide)).trans Q4.at_.c1, (AC (by decide)).trans Q4.at_.c2, (AC (by decide)).trans Q4.at_.c3, (AC (by decide)).trans Q4.at_.c4, (AC (by decide)).trans Q4.at_.c5, (AC (by decide)).trans Q4.at_.c6, (AC (by decide)).trans Q4.at_.c7⟩, fun j => by rw [World.frozen?_setCell]; exact Q4.fr j⟩
  have ZZ : Cf y5 R ⟨0, 0, 0, 0, 0, 0, 0, false⟩ := by rw [hst]; exact Z4.keep (AE (by show R ≠ Q; omega))
  have cq := Q4;obtain ⟨⟨e0, e1, e2, e3, e4, e5, e6, e7⟩, ef⟩ := cq;have fi := ef 0;go_upto_region 11 with fail
  rw [← hst];clear hst e0 e1 e2 e3 e4 e5 e6 e7 ef fi;have DZ := ((((((((D5.set (N := R) (i := 0) (by omega) hcb (ji (n - 1))).set (N := R) (i := 1) (by omega) hcb (ji q)).set (N := R) (i := 2) (by omega) hcb (ji r)).set (N := R) (i := 3) (by omega) hcb (ji c)).set (N := R) (i := 4) (by omega) hcb (ji b)).set (N := R) (i := 5) (by omega) hcb (ji p)).set (N := R) (i := 6) (by omega) hcb (ji h)).set (N := R) (i := 7) (by omega) hcb (.bool up));obtain ⟨⟨q0, q1, q2, q3, q4, q5, q6, q7⟩, qf⟩ := QN;obtain ⟨⟨z0, z1, z2, z3, z4, z5, z6, z7⟩, zf⟩ := ZZ;have f0 := zf 0;have f1 := zf 1;have f2 := zf 2;have f3 := zf 3;have f4 := zf 4;have f5 := zf 5;have f6 := zf 6;have f7 := zf 7;go_wp2
  refine bodyPost_ret (v := .agg #[ji (n - 1), ji q, ji r, ji c, ji b, ji p, ji h, .bool up]) (by simp [results, results80, go_sem, *]) rfl ⟨⟨(n - 1), q, r, c, b, p, h, up⟩, rfl, DZ.src hs, DZ.gr, by (unfold B8; simp only; omega)⟩
 have d0 : (t == 0) = false := by simpa using e0
 by_cases e1 : t = 1
 ·
  subst e1;obtain ⟨y4z, hy4z, kz⟩ := AI y3 (Obj.cells #[ji (-1), ji 3, ji 4] 3);have hpk : ∀ i, i < 3 → ∃ y, y4z.cell? (ja y3.heap.size i) = some (ji y) ∧ (fun y : Int => -1 ≤ y ∧ y ≤ 9) y := fun i hi => by
   rw [hy4z];rcases (by omega : i = 0 ∨ i = 1 ∨ i = 2) with rfl | rfl | rfl
   ·
    exact ⟨(-1 : Int), by simp [go_sem], by constructor <;> decide⟩
   ·
    exact ⟨(3 : Int), by simp [go_sem], by constructor <;> decide⟩
   exact ⟨(4 : Int), by simp [go_sem], by constructor <;> decide⟩
  have D3z := D3.later8 kz;have hcz : y3.heap.size ≠ cb := by have := D3.cur.lt; omega
  have Q3z : Cf y4z Q _ := Q3.keep (kz.block _ Q3.at_.lt);have Z3z : Cf y4z R _ := Z3.keep (kz.block _ Z3.at_.lt);go_wp2_with fail
  go_at_call 41
  rw [← hy4z];clear hy4z kz;refine (EQ (D3z.src hs) (fun y : Int => -1 ≤ y ∧ y ≤ 9) y3.heap.size 3 3 hcz (by decide) (by decide) hpk).mono ?_;rintro e y4 ⟨n, rfl, hn, s_, g_⟩;have D3p := D3z.step s_ g_;have Q4 := Q3z.grown g_ lQc;have Z4 := Z3z.grown g_ hRc;obtain ⟨n0, n1⟩ := hn;clear D3 D3z Q3 Q3z Z3 Z3z s_ g_ hpk hcz;obtain ⟨y5, hst⟩ := AB (y4.setCell (ja Q 1) (ji n));have D5 : DV w cb ad len cap y5 := by rw [hst]; exact D3p.set (N := Q) (i := 1) (by omega) hcb _
  have QN : Cf y5 Q ⟨k, n, r, c, b, p, h, up⟩ := by rw [hst]; exact ⟨⟨(AC (by decide)).trans Q4.at_.c0, Aj Q4.at_.c1, (AC (by decide)).trans Q4.at_.c2, (AC (by decide)).trans Q4.at_.c3, (AC (by decide)).trans Q4.at_.c4, (AC (by decide)).trans Q4.at_.c5, (AC (by decide)).trans Q4.at_.c6, (AC (by decide)).trans Q4.at_.c7⟩, fun j => by rw [World.frozen?_setCell]; exact Q4.fr j⟩
  have ZZ : Cf y5 R ⟨0, 0, 0, 0, 0, 0, 0, false⟩ := by rw [hst]; exact Z4.keep (AE (by show R ≠ Q; omega))
  have cq := Q4;obtain ⟨⟨e0, e1, e2, e3, e4, e5, e6, e7⟩, ef⟩ := cq;have fi := ef 1;go_upto_region 11 with fail
  rw [← hst];clear hst e0 e1 e2 e3 e4 e5 e6 e7 ef fi;have DZ := ((((((((D5.set (N := R) (i := 0) (by omega) hcb (ji k)).set (N := R) (i := 1) (by omega) hcb (ji n)).set (N := R) (i := 2) (by omega) hcb (ji r)).set (N := R) (i := 3) (by omega) hcb (ji c)).set (N := R) (i := 4) (by omega) hcb (ji b)).set (N := R) (i := 5) (by omega) hcb (ji p)).set (N := R) (i := 6) (by omega) hcb (ji h)).set (N := R) (i := 7) (by omega) hcb (.bool up));obtain ⟨⟨q0, q1, q2, q3, q4, q5, q6, q7⟩, qf⟩ := QN;obtain ⟨⟨z0, z1, z2, z3, z4, z5, z6, z7⟩, zf⟩ := ZZ;have f0 := zf 0;have f1 := zf 1;have f2 := zf 2;have f3 := zf 3;have f4 := zf 4;have f5 := zf 5;have f6 := zf 6;have f7 := zf 7;go_wp2
  refine bodyPost_ret (v := .agg #[ji k, ji n, ji r, ji c, ji b, ji p, ji h, .bool up]) (by simp [results, results80, go_sem, *]) rfl ⟨⟨k, n, r, c, b, p, h, up⟩, rfl, DZ.src hs, DZ.gr, by (unfold B8; simp only; omega)⟩
 have d1 : (t == 1) = false := by simpa using e1
 by_cases e2 : t = 2
 ·
  subst e2;go_wp2_with fail
  go_at_call 122
  refine (KO y3 (D3.src hs) D3.cur.lt).mono ?_;rintro e y4 ⟨r2, c2, b2', p2, rfl, hV4, s4, g4⟩;have D4 := D3.step s4 g4;have Q4 := Q3.grown g4 lQc;have Z4 := Z3.grown g4 hRc;clear D3 Q3 Z3 s4 g4;obtain ⟨y5, hst⟩ := AB ((((y4.setCell (ja Q 2) (ji r2)).setCell (ja Q 3) (ji c2)).setCell (ja Q 4) (ji b2')).setCell (ja Q 5) (ji p2));have D5 : DV w cb ad len cap y5 := by rw [hst]; exact ((((D4.set (N := Q) (i := 2) (by omega) hcb (ji r2)).set (N := Q) (i := 3) (by omega) hcb (ji c2)).set (N := Q) (i := 4) (by omega) hcb (ji b2')).set (N := Q) (i := 5) (by omega) hcb (ji p2))
  have QN : Cf y5 Q ⟨k, q, r2, c2, b2', p2, h, up⟩ := by rw [hst]; obtain ⟨⟨e0, e1, e2, e3, e4, e5, e6, e7⟩, ef⟩ := Q4; refine ⟨⟨?_, ?_, ?_, ?_, ?_, ?_, ?_, ?_⟩, fun j => ?_⟩ <;> simp [go_sem, *]
  have ZZ : Cf y5 R ⟨0, 0, 0, 0, 0, 0, 0, false⟩ := by rw [hst]; exact Z4.keep (by rw [AE (by show R ≠ Q; omega), AE (by show R ≠ Q; omega), AE (by show R ≠ Q; omega), AE (by show R ≠ Q; omega)])
  have cq := Q4;obtain ⟨⟨e0, e1, e2, e3, e4, e5, e6, e7⟩, ef⟩ := cq;have fi2 := ef 2;have fi3 := ef 3;have fi4 := ef 4;have fi5 := ef 5;go_upto_region 11 with fail
  rw [← hst];clear hst e0 e1 e2 e3 e4 e5 e6 e7 ef fi2 fi3 fi4 fi5;have DZ := ((((((((D5.set (N := R) (i := 0) (by omega) hcb (ji k)).set (N := R) (i := 1) (by omega) hcb (ji q)).set (N := R) (i := 2) (by omega) hcb (ji r2)).set (N := R) (i := 3) (by omega) hcb (ji c2)).set (N := R) (i := 4) (by omega) hcb (ji b2')).set (N := R) (i := 5) (by omega) hcb (ji p2)).set (N := R) (i := 6) (by omega) hcb (ji h)).set (N := R) (i := 7) (by omega) hcb (.bool up));obtain ⟨⟨q0, q1, q2, q3, q4, q5, q6, q7⟩, qf⟩ := QN;obtain ⟨⟨z0, z1, z2, z3, z4, z5, z6, z7⟩, zf⟩ := ZZ;have f0 := zf 0;have f1 := zf 1;have f2 := zf 2;have f3 := zf 3;have f4 := zf 4;have f5 := zf 5;have f6 := zf 6;have f7 := zf 7;go_wp2
  refine bodyPost_ret (v := .agg #[ji k, ji q, ji r2, ji c2, ji b2', ji p2, ji h, .bool up]) (by simp [results, results80, go_sem, *]) rfl ⟨⟨k, q, r2, c2, b2', p2, h, up⟩, rfl, DZ.src hs, DZ.gr, by (unfold V4 at hV4; unfold B8; simp only; omega)⟩
 have d2 : (t == 2) = false := by simpa using e2
 by_cases e3 : t = 3
 ·
  subst e3;obtain ⟨y4z, hy4z, kz⟩ := AI y3 (Obj.cells #[ji (-1), ji 8, ji 9] 3);have hpk : ∀ i, i < 3 → ∃ y, y4z.cell? (ja y3.heap.size i) = some (ji y) ∧ (fun y : Int => -1 ≤ y ∧ y ≤ 9) y := fun i hi => by
   rw [hy4z];rcases (by omega : i = 0 ∨ i = 1 ∨ i = 2) with rfl | rfl | rfl
   ·
    exact ⟨(-1 : Int), by simp [go_sem], by constructor <;> decide⟩
   ·
    exact ⟨(8 : Int), by simp [go_sem], by constructor <;> decide⟩
   exact ⟨(9 : Int), by simp [go_sem], by constructor <;> decide⟩
  have D3z := D3.later8 kz;have hcz : y3.heap.size ≠ cb := by have := D3.cur.lt; omega
  have Q3z : Cf y4z Q _ := Q3.keep (kz.block _ Q3.at_.lt);have Z3z : Cf y4z R _ := Z3.keep (kz.block _ Z3.at_.lt);go_wp2_with fail
  go_at_call 41
  rw [← hy4z];clear hy4z kz;refine (EQ (D3z.src hs) (fun y : Int => -1 ≤ y ∧ y ≤ 9) y3.heap.size 3 3 hcz (by decide) (by decide) hpk).mono ?_;rintro e y4 ⟨n, rfl, hn, s_, g_⟩;have D3p := D3z.step s_ g_;have Q4 := Q3z.grown g_ lQc;have Z4 := Z3z.grown g_ hRc;obtain ⟨n0, n1⟩ := hn;clear D3 D3z Q3 Q3z Z3 Z3z s_ g_ hpk hcz;obtain ⟨y5, hst⟩ := AB (y4.setCell (ja Q 6) (ji n));have D5 : DV w cb ad len cap y5 := by rw [hst]; exact D3p.set (N := Q) (i := 6) (by omega) hcb _
  have QN : Cf y5 Q ⟨k, q, r, c, b, p, n, up⟩ := by rw [hst]; exact ⟨⟨(AC (by decide)).trans Q4.at_.c0, (AC (by decide)).trans Q4.at_.c1, (AC (by decide)).trans Q4.at_.c2, (AC (by decide)).trans Q4.at_.c3, (AC (by decide)).trans Q4.at_.c4, (AC (by decide)).trans Q4.at_.c5, Aj Q4.at_.c6, (AC (by decide)).trans Q4.at_.c7⟩, fun j => by rw [World.frozen?_setCell]; exact Q4.fr j⟩
  have ZZ : Cf y5 R ⟨0, 0, 0, 0, 0, 0, 0, false⟩ := by rw [hst]; exact Z4.keep (AE (by show R ≠ Q; omega))
  have cq := Q4;obtain ⟨⟨e0, e1, e2, e3, e4, e5, e6, e7⟩, ef⟩ := cq;have fi := ef 6;go_upto_region 11 with fail
  rw [← hst];clear hst e0 e1 e2 e3 e4 e5 e6 e7 ef fi;have DZ := ((((((((D5.set (N := R) (i := 0) (by omega) hcb (ji k)).set (N := R) (i := 1) (by omega) hcb (ji q)).set (N := R) (i := 2) (by omega) hcb (ji r)).set (N := R) (i := 3) (by omega) hcb (ji c)).set (N := R) (i := 4) (by omega) hcb (ji b)).set (N := R) (i := 5) (by omega) hcb (ji p)).set (N := R) (i := 6) (by omega) hcb (ji n)).set (N := R) (i := 7) (by omega) hcb (.bool up));obtain ⟨⟨q0, q1, q2, q3, q4, q5, q6, q7⟩, qf⟩ := QN;obtain ⟨⟨z0, z1, z2, z3, z4, z5, z6, z7⟩, zf⟩ := ZZ;have f0 := zf 0;have f1 := zf 1;have f2 := zf 2;have f3 := zf 3;have f4 := zf 4;have f5 := zf 5;have f6 := zf 6;have f7 := zf 7;go_wp2
  refine bodyPost_ret (v := .agg #[ji k, ji q, ji r, ji c, ji b, ji p, ji n, .bool up]) (by simp [results, results80, go_sem, *]) rfl ⟨⟨k, q, r, c, b, p, n, up⟩, rfl, DZ.src hs, DZ.gr, by (unfold B8; simp only; omega)⟩
 have d3 : (t == 3) = false := by simpa using e3
 have ZZ := Z3;have DZ := ((((((((D3.set (N := R) (i := 0) (by omega) hcb (ji k)).set (N := R) (i := 1) (by omega) hcb (ji q)).set (N := R) (i := 2) (by omega) hcb (ji r)).set (N := R) (i := 3) (by omega) hcb (ji c)).set (N := R) (i := 4) (by omega) hcb (ji b)).set (N := R) (i := 5) (by omega) hcb (ji p)).set (N := R) (i := 6) (by omega) hcb (ji h)).set (N := R) (i := 7) (by omega) hcb (.bool up));obtain ⟨⟨q0, q1, q2, q3, q4, q5, q6, q7⟩, qf⟩ := Q3;obtain ⟨⟨z0, z1, z2, z3, z4, z5, z6, z7⟩, zf⟩ := ZZ;have f0 := zf 0;have f1 := zf 1;have f2 := zf 2;have f3 := zf 3;have f4 := zf 4;have f5 := zf 5;have f6 := zf 6;have f7 := zf 7;go_wp2
 refine bodyPost_ret (v := .agg #[ji k, ji q, ji r, ji c, ji b, ji p, ji h, .bool up]) (by simp [results, results80, go_sem, *]) rfl ⟨⟨k, q, r, c, b, p, h, up⟩, rfl, DZ.src hs, DZ.gr, by (unfold B8; simp only; omega)⟩
attribute [local go_sem] bc mc
def LY (w : World) (cb : Nat) (ad : Option Addr) (len cap : Nat) (f : Nat → Int) (e : Ending) (w' : World) : Prop :=
 ∃ x : AG, e = .returned (.agg (bc x)) ∧ Cs w' x ∧ x.two.length = 2 ∧ (∀ i, i < 2 → (x.two.getD i AF.nil).m.lg.length ≤ 60 ∧ ((x.two.getD i AF.nil).ad = none → (x.two.getD i AF.nil).cap = 0)) ∧ (∀ a, x.aT = some a → w.heap.size ≤ a.block) ∧ (∀ i a, i < 2 → (x.two.getD i AF.nil).ad = some a → w.heap.size ≤ a.block) ∧ BN w' cb ad len cap f ∧ w.grownBy w' (some cb)
def GO : Prop := ∀ {cb : Nat} {ad : Option Addr} {len cap : Nat} {f : Nat → Int} (w : World) (_ : BN w cb ad len cap f) (_ : cb < w.heap.size), Calls prog 77 #[.pointer (some (ja cb 0))] w fun e w' => LY w cb ad len cap f e w'
def IU (n : Nat) (w : World) (cb : Nat) (ad : Option Addr) (len cap : Nat) (f : Nat → Int) (e : Ending) (w' : World) : Prop :=
 ∃ (m : Mi) (a : Option Addr) (c : Nat), e = .returned (.agg (mc m a c)) ∧ m.lg.length ≤ n ∧ AD AS 8 64 w.heap.size w' (.slice a m.lg.length c) m.lg ∧ BN w' cb ad len cap f ∧ w.grownBy w' (some cb)
theorem KM (hR : GO) {cb : Nat} {ad : Option Addr} {len cap : Nat} {f : Nat → Int} (w : World) (hs : BN w cb ad len cap f) (hcb : cb < w.heap.size) : Calls prog 121 #[.pointer (some (ja cb 0))] w fun e w' => IU 60 w cb ad len cap f e w' := by
 have hfld : ∀ (i_ p_ r0_ r1_ r2_ : Int) (t_ n_ g_ l_ s_ : Value) (w_ : World), (Instr.field 34 (.agg #[ji i_, ji p_, ji r0_, ji r1_, ji r2_, t_, n_, g_, l_, s_]) 3).run prog w_ = .ok t_ w_ := fun _ _ _ _ _ _ _ _ _ _ _ => by kernel_rfl
 obtain ⟨y0, hy0⟩ := AB (w.alloc (Obj.cells #[.bool false, ji 0, ji 0, .slice none 0 0, ji 0, ji 0, ji 0] 52));have D0 : DV w cb ad len cap y0 := by rw [hy0]; exact (DV.start hs).alloc _
 have R0 : AV y0 w.heap.size ⟨false, 0, 0, [], 0, 0, 0⟩ (.slice none 0 0) := by rw [hy0]; exact AV.new w _ ⟨false, 0, 0, [], 0, 0, 0⟩ _
 have z0 := R0.lt;go_enter func121, ntmps121
 go_wp2_with fail
 go_at_call 77
 rw [← hy0];clear hy0;refine (hR y0 (D0.src hs) (by omega)).mono ?_;rintro e y1 ⟨x, rfl, V, h2, hm, loT, loL, s1, g1⟩;have D1 := D0.step s1 g1;have R1 := R0.keep (g1.block _ R0.lt (by simp; omega));have z1 := g1.size;clear D0 R0 s1 g1;have b2 := Nat.le_of_eq h2;have b2' := Nat.le_of_eq h2.symm;replace h2 : Hid _ := h2;go_wp2_with fail
 go_at_call 38
 refine (Bz (D1.src hs) 2 (by decide) (by decide)).mono ?_;rintro e y2 ⟨v, rfl, v0, v1, s2, g2⟩;have D2 := D1.step s2 g2;have R2 := R1.keep (g2.block _ R1.lt (by simp; omega));have z2 := g2.size;obtain ⟨k, rfl⟩ : ∃ k : Nat, v = (k : Int) := ⟨v.toNat, by omega⟩;have hk : k < x.two.length := by omega
 have hk2 : k < 2 := by omega
 obtain ⟨d, hd⟩ : ∃ d, x.two.getD k AF.nil = d := ⟨_, rfl⟩;obtain ⟨b, off, hat, _⟩ := V.t (by omega);have hbl := loT _ hat;have hlt := V.t.lt Au (by omega) _ hat (by omega);dsimp only at hbl hlt;have ht2 := V.t.carry (w' := y2) (fun a e _ => g2.block _ (V.t.lt Au (by omega) a e (by omega)) (by have := loT a e; simp; omega));have hck : BE y2 b (off + k * 7) d := by
  rw [hat] at ht2;rw [← hd];exact CJ (ht2.at_ Au AF.nil hk)
 have hvl := (V.l k hk).carry (w' := y2) (fun a e p => g2.block _ ((V.l k hk).lt Aa (by omega) a e p) (by have := loL k a hk2 e; simp; omega));have hmk := hm k hk2;rw [hd] at hvl hmk;obtain ⟨hl60, hn⟩ := hmk;have hcT := V.ct;clear D1 R1 s2 g2 ht2 loT loL hm V hd;rw [hat];clear hat;replace hck := hck.all;go_wp2_with fail
 go_at_call 105
 clear hck;refine (Ej d.m d.ad d.cap y2 hvl (by omega) hn).mono ?_;rintro e y3 ⟨a3, k3, rfl, O3, k_⟩;have D3 := D2.later8 k_;have R3 := R2.below k_ R2.lt;have z3 := k_.size;clear D2 R2 k_ hvl;have O4 : AD AS 8 64 w.heap.size (((((((y3.setCell (ja w.heap.size 0) (.bool d.m.up)).setCell (ja w.heap.size 1) (ji d.m.li)).setCell (ja w.heap.size 2) (ji d.m.ep)).setCell (ja w.heap.size 3) (.slice a3 d.m.lg.length k3)).setCell (ja w.heap.size 4) (ji d.m.sd)).setCell (ja w.heap.size 5) (ji d.m.ac)).setCell (ja w.heap.size 6) (ji d.m.al)) (.slice a3 d.m.lg.length k3) d.m.lg := (O3.base (by omega)).keep (fun g e => Dd y3 w.heap.size g d.m _ (by have := (O3.lt g e).1; omega));have D4 : DV w cb ad len cap (((((((y3.setCell (ja w.heap.size 0) (.bool d.m.up)).setCell (ja w.heap.size 1) (ji d.m.li)).setCell (ja w.heap.size 2) (ji d.m.ep)).setCell (ja w.heap.size 3) (.slice a3 d.m.lg.length k3)).setCell (ja w.heap.size 4) (ji d.m.sd)).setCell (ja w.heap.size 5) (ji d.m.ac)).setCell (ja w.heap.size 6) (ji d.m.al)) := ((((((D3.set (Nat.le_refl _) hcb _).set (Nat.le_refl _) hcb _).set (Nat.le_refl _) hcb _).set (Nat.le_refl _) hcb _).set (Nat.le_refl _) hcb _).set (Nat.le_refl _) hcb _).set (Nat.le_refl _) hcb _;obtain ⟨z0, z1, z2, z3, z4, z5, z6, zf⟩ := R3;have g0 := zf 0;have g1 := zf 1;have g2 := zf 2;have g3 := zf 3;have g4 := zf 4;have g5 := zf 5;have g6 := zf 6;clear zf O3;have sZ := D4.src hs;have gZ := D4.gr;clear D3 D4;go_wp2
 refine bodyPost_ret (v := .agg (mc d.m a3 k3)) (by simp [results, results121, go_sem, *]) rfl ⟨d.m, a3, k3, rfl, hl60, O4, sZ, gZ⟩
attribute [local go_sem] ic
theorem AV.setUp {w : World} {q : Nat} {m : Mi} {v : Value} (h : AV w q m v) (z : Bool) : AV (w.setCell (ja q 0) (.bool z)) q ⟨z, m.li, m.ep, m.lg, m.sd, m.ac, m.al⟩ v :=
 ⟨Aj h.c0, (AC (by decide)).trans h.c1, (AC (by decide)).trans h.c2, (AC (by decide)).trans h.c3, (AC (by decide)).trans h.c4, (AC (by decide)).trans h.c5, (AC (by decide)).trans h.c6, fun i => by rw [World.frozen?_setCell]; exact h.fr i⟩
theorem AV.setEp {w : World} {q : Nat} {m : Mi} {v : Value} (h : AV w q m v) (z : Int) : AV (w.setCell (ja q 2) (ji z)) q ⟨m.up, m.li, z, m.lg, m.sd, m.ac, m.al⟩ v :=
 ⟨(AC (by decide)).trans h.c0, (AC (by decide)).trans h.c1, Aj h.c2, (AC (by decide)).trans h.c3, (AC (by decide)).trans h.c4, (AC (by decide)).trans h.c5, (AC (by decide)).trans h.c6, fun i => by rw [World.frozen?_setCell]; exact h.fr i⟩
theorem AV.setSd {w : World} {q : Nat} {m : Mi} {v : Value} (h : AV w q m v) (z : Int) : AV (w.setCell (ja q 4) (ji z)) q ⟨m.up, m.li, m.ep, m.lg, z, m.ac, m.al⟩ v :=
 ⟨(AC (by decide)).trans h.c0, (AC (by decide)).trans h.c1, (AC (by decide)).trans h.c2, (AC (by decide)).trans h.c3, Aj h.c4, (AC (by decide)).trans h.c5, (AC (by decide)).trans h.c6, fun i => by rw [World.frozen?_setCell]; exact h.fr i⟩
theorem AV.setAc {w : World} {q : Nat} {m : Mi} {v : Value} (h : AV w q m v) (z : Int) : AV (w.setCell (ja q 5) (ji z)) q ⟨m.up, m.li, m.ep, m.lg, m.sd, z, m.al⟩ v :=
 ⟨(AC (by decide)).trans h.c0, (AC (by decide)).trans h.c1, (AC (by decide)).trans h.c2, (AC (by decide)).trans h.c3, (AC (by decide)).trans h.c4, Aj h.c5, (AC (by decide)).trans h.c6, fun i => by rw [World.frozen?_setCell]; exact h.fr i⟩
theorem KN (hR : GO) {cb : Nat} {ad : Option Addr} {len cap : Nat} {f : Nat → Int} (w : World) (hs : BN w cb ad len cap f) (hcb : cb < w.heap.size) : Calls prog 78 #[.pointer (some (ja cb 0))] w fun e w' => IU 61 w cb ad len cap f e w' := by
 obtain ⟨i0, hi0, hz0, hz1, hz2⟩ := info_parts Eo;obtain ⟨y0, hy0⟩ := AB (w.alloc (Obj.cells #[.bool false, ji 0, ji 0, .slice none 0 0, ji 0, ji 0, ji 0] 52));have D0 : DV w cb ad len cap y0 := by rw [hy0]; exact (DV.start hs).alloc _
 have R0 : AV y0 w.heap.size ⟨false, 0, 0, [], 0, 0, 0⟩ (.slice none 0 0) := by rw [hy0]; exact AV.new w _ ⟨false, 0, 0, [], 0, 0, 0⟩ _
 have z0 := R0.lt;go_enter func78, ntmps78
 go_wp2_with fail
 go_at_call 121
 rw [← hy0];clear hy0;refine (KM hR y0 (D0.src hs) (by omega)).mono ?_;rintro e y1 ⟨m, a, c, rfl, hl, O, s1, g1⟩;have D := D0.step s1 g1;have R := R0.keep (g1.block _ R0.lt (by simp; omega));have z1 := g1.size;have lo := O.lt;clear D0 R0 s1 g1;obtain ⟨y2, hy2, k2⟩ := AI y1 (Obj.cells (mc m a c) 52);have N : AV y2 y1.heap.size m (.slice a m.lg.length c) := by rw [hy2]; exact AV.new y1 _ _ _
 have D := D.later8 k2;have R := R.below k2 R.lt;have O := O.later k2;have z2 := N.lt;go_upto_region 2 with fail
 rw [← hy2];clear hy2 k2;obtain ⟨Q, hQ⟩ := AB y1.heap.size;rw [← hQ] at N lo z1 z2 ⊢;clear hQ;go_wp2_with fail
 go_at_call 38
 refine (Bz (D.src hs) 10 (by decide) (by decide)).mono ?_;rintro e y3 ⟨v, rfl, v0, v1, s_, g3⟩;have z3 := g3.size;have D := D.step s_ g3;have R := R.keep (g3.block _ R.lt (by simp; omega));have N := N.keep (g3.block _ N.lt (by simp; omega));have O := O.keep (fun g_ e => g3.block g_ (O.lt g_ e).2 (by have := lo g_ e; simp; omega));clear s_ g3;by_cases h0 : v = 0
 focus
  subst h0;obtain ⟨mm, hmm⟩ : ∃ q_ : Mi, q_ = ⟨!m.up, m.li, m.ep, m.lg, m.sd, m.ac, m.al⟩ := ⟨_, rfl⟩;obtain ⟨y6, hy6⟩ := AB (y3.setCell (ja Q 0) (.bool (!m.up)));have hl6 : mm.lg.length ≤ 61 := by rw [hmm]; show m.lg.length ≤ 61; omega
  have N6 : AV y6 Q mm (.slice a mm.lg.length c) := by rw [hy6, hmm]; exact N.setUp (!m.up)
  have kp : ∀ k, k ≠ Q → y6.heap[k]? = y3.heap[k]? := fun k hk => by rw [hy6]; exact AE hk
  have R := R.keep (kp _ (by omega));have O6 : AD AS 8 64 y0.heap.size y6 (.slice a mm.lg.length c) mm.lg := by rw [hmm]; exact O.keep (fun g_ e => kp g_ (by have := lo g_ e; omega))
  have lo6 : ∀ g, (Value.slice a mm.lg.length c).ownBlock = some g → y0.heap.size ≤ g ∧ g < Q := by rw [hmm]; exact lo
  have D : DV w cb ad len cap y6 := by rw [hy6]; exact D.set (by omega) hcb _
  obtain ⟨n0, n1, n2, n3, n4, n5, n6, nf⟩ := N;have fj := nf 0
 rotate_left;focus
  by_cases h1 : v = 1
  focus
   subst h1;go_wp2_with fail
   go_at_call 38
   refine (Bz (D.src hs) 9 (by decide) (by decide)).mono ?_;rintro e y4 ⟨u, rfl, u0, u1, s_, g4⟩;have z4 := g4.size;have D := D.step s_ g4;have R := R.keep (g4.block _ R.lt (by simp; omega));have N := N.keep (g4.block _ N.lt (by simp; omega));have O := O.keep (fun g_ e => g4.block g_ (O.lt g_ e).2 (by have := lo g_ e; simp; omega));clear s_ g4;obtain ⟨mm, hmm⟩ : ∃ q_ : Mi, q_ = ⟨m.up, m.li, m.ep, m.lg, u - 1, m.ac, m.al⟩ := ⟨_, rfl⟩;obtain ⟨y6, hy6⟩ := AB (y4.setCell (ja Q 4) (ji (u - 1)));have hl6 : mm.lg.length ≤ 61 := by rw [hmm]; show m.lg.length ≤ 61; omega
   have N6 : AV y6 Q mm (.slice a mm.lg.length c) := by rw [hy6, hmm]; exact N.setSd (u - 1)
   have kp : ∀ k, k ≠ Q → y6.heap[k]? = y4.heap[k]? := fun k hk => by rw [hy6]; exact AE hk
   have R := R.keep (kp _ (by omega));have O6 : AD AS 8 64 y0.heap.size y6 (.slice a mm.lg.length c) mm.lg := by rw [hmm]; exact O.keep (fun g_ e => kp g_ (by have := lo g_ e; omega))
   have lo6 : ∀ g, (Value.slice a mm.lg.length c).ownBlock = some g → y0.heap.size ≤ g ∧ g < Q := by rw [hmm]; exact lo
   have D : DV w cb ad len cap y6 := by rw [hy6]; exact D.set (by omega) hcb _
   obtain ⟨n0, n1, n2, n3, n4, n5, n6, nf⟩ := N;have fj := nf 4
  rotate_left;focus
   by_cases h2 : v = 2
   focus
    subst h2;go_wp2_with fail
    go_at_call 38
    refine (Bz (D.src hs) 9 (by decide) (by decide)).mono ?_;rintro e y4 ⟨u, rfl, u0, u1, s_, g4⟩;have z4 := g4.size;have D := D.step s_ g4;have R := R.keep (g4.block _ R.lt (by simp; omega));have N := N.keep (g4.block _ N.lt (by simp; omega));have O := O.keep (fun g_ e => g4.block g_ (O.lt g_ e).2 (by have := lo g_ e; simp; omega));clear s_ g4;obtain ⟨mm, hmm⟩ : ∃ q_ : Mi, q_ = ⟨m.up, m.li, m.ep, m.lg, m.sd, u - 1, m.al⟩ := ⟨_, rfl⟩;obtain ⟨y6, hy6⟩ := AB (y4.setCell (ja Q 5) (ji (u - 1)));have hl6 : mm.lg.length ≤ 61 := by rw [hmm]; show m.lg.length ≤ 61; omega
    have N6 : AV y6 Q mm (.slice a mm.lg.length c) := by rw [hy6, hmm]; exact N.setAc (u - 1)
    have kp : ∀ k, k ≠ Q → y6.heap[k]? = y4.heap[k]? := fun k hk => by rw [hy6]; exact AE hk
    have R := R.keep (kp _ (by omega));have O6 : AD AS 8 64 y0.heap.size y6 (.slice a mm.lg.length c) mm.lg := by rw [hmm]; exact O.keep (fun g_ e => kp g_ (by have := lo g_ e; omega))
    have lo6 : ∀ g, (Value.slice a mm.lg.length c).ownBlock = some g → y0.heap.size ≤ g ∧ g < Q := by rw [hmm]; exact lo
    have D : DV w cb ad len cap y6 := by rw [hy6]; exact D.set (by omega) hcb _
    obtain ⟨n0, n1, n2, n3, n4, n5, n6, nf⟩ := N;have fj := nf 5
   rotate_left;focus
    by_cases h3 : v = 3
    ·
     subst h3;go_upto_region 10 with fail
     refine FD (fun Y => AV Y Q m (.slice a m.lg.length c)) 7 ?_;intro u0 hu0;change DH _ _ _ _ _ _ _ _ _ _;have kd : Bw y3 u0 := by rw [hu0]; exact (Below.refl _ _).drew
     clear hu0;have D := D.later8 kd;have R := R.below kd R.lt;have N := N.below kd N.lt;have O := O.later kd;have zd := kd.size;clear kd;refine tl 0 28 (.pointer (some (ja Q 3))) ?_;refine tl 2 30 (.pointer (some (ja cb 0))) ?_;refine tl 1 29 (.slice a m.lg.length c) ?_ (hy := by intro Y hSw; have X3 := hSw.c3; go_simp);refine wl 3 fun Kz hKz => ?_
     go_simp
     go_at_call 80
     refine (Gp u0 (D.src hs) (by omega)).mono ?_;rintro e u1 ⟨xx, rfl, s_, g1, _⟩;have zc := g1.size;have D := D.step s_ g1;have R := R.keep (g1.block _ R.lt (by simp; omega));have N := N.keep (g1.block _ N.lt (by simp; omega));have O := O.keep (fun g_ e => g1.block g_ (O.lt g_ e).2 (by have := lo g_ e; simp; omega));clear s_ g1;refine hKz _ _ ⟨fun _ => N, ?_⟩;clear hKz Kz;refine wl 4 fun Kz hKz => ?_
     go_simp
     obtain ⟨u2, hu2, kq⟩ := AI u1 (Obj.cells (ic xx) 64);have V1 : AH AS u2 (some (ja u1.heap.size 0)) [xx] := by rw [hu2]; exact AH.oneJ u1 _ xx
     have D := D.later8 kq;have R := R.below kq R.lt;have N := N.below kq N.lt;have O := O.later kq;have zq := kq.size;rw [← hu2];clear hu2 kq;refine hKz _ _ ⟨fun _ => N, ?_⟩;clear hKz Kz;refine wl 5 fun Kz hKz => ?_
     refine CH Aa Ec 33 _ _ 31 rfl rfl y0.heap.size 64 i0 (.agg #[ji 0, ji 0, ji 0, ji 0, ji 0, ji 0, ji 0, .bool false]) 64 underlying31 hi0 hz0 hz1 hz2 rfl (by decide) (by decide) (.slice a m.lg.length c) m.lg rfl O (some (ja u1.heap.size 0)) 1 [xx] rfl (fun e => by cases e) V1 (by simp; omega) (by omega) ?_;intro vN u3 oN gN hob;obtain ⟨mm, hmm⟩ : ∃ q_ : Mi, q_ = ⟨m.up, m.li, m.ep, m.lg ++ [xx], m.sd, m.ac, m.al⟩ := ⟨_, rfl⟩;have hl6 : mm.lg.length ≤ 61 := by rw [hmm]; show (m.lg ++ [xx]).length ≤ 61; simp; omega
     have oN : AD AS 8 64 y0.heap.size u3 vN mm.lg := by rw [hmm]; exact oN
     replace hmm : Hid _ := hmm;have kb : ∀ k, k < u2.heap.size → (∀ g_, (Value.slice a m.lg.length c).ownBlock = some g_ → k ≠ g_) → u3.heap[k]? = u2.heap[k]? := fun k hk he => gN.block k hk (fun e => he k e.symm rfl)
     have hqn : ∀ g_, vN.ownBlock = some g_ → g_ ≠ Q := fun g_ e => hob.elim (fun h => by rw [h] at e; have := lo g_ e; omega) (fun h => by rw [h] at e; have e2 := Option.some.inj e; omega)
     have R := R.keep (kb _ R.lt (fun g_ e => by have := lo g_ e; omega));have N := N.keep (kb _ N.lt (fun g_ e => by have := lo g_ e; omega));have D : DV w cb ad len cap u3 := ⟨D.cur.carry (kb _ D.cur.lt (fun g_ e => by have := lo g_ e; omega)), He D.gr gN (fun k e => by have := lo k e; omega)⟩;have zN := gN.size;obtain ⟨aN, cN, rfl⟩ := oN.open_;clear gN kb hob V1 O;simp only [List.set_cons_zero, List.set_cons_succ];refine hKz _ _ ⟨fun _ => N, ?_⟩;clear hKz Kz;refine tl 6 34 (.pointer (some (ja Q 3))) ?_;refine wl 7 fun Kz hKz => ?_
     have c3 := N.c3;have f3 := N.fr 3;go_simp
     clear c3 f3;obtain ⟨y6, hy6⟩ := AB (u3.setCell (ja Q 3) (.slice aN mm.lg.length cN));have N6 : AV y6 Q mm (.slice aN mm.lg.length cN) := by rw [hy6, hmm.out]; exact (N.log _).lg (m.lg ++ [xx])
     have kp : ∀ k, k ≠ Q → y6.heap[k]? = u3.heap[k]? := fun k hk => by rw [hy6]; exact AE hk
     have R := R.keep (kp _ (by omega));have O := oN.keep (fun g_ e => kp g_ (hqn g_ e));have D : DV w cb ad len cap y6 := by rw [hy6]; exact D.set (by omega) hcb _
     rw [← hy6];clear hy6 kp hmm oN N;refine hKz _ _ ⟨fun e => absurd rfl e, ?_⟩;clear hKz Kz;refine Em ?_;have N := N6;clear N6;have lo := O.lt;have O9 : AD AS 8 64 w.heap.size (((((((y6.setCell (ja w.heap.size 0) (.bool mm.up)).setCell (ja w.heap.size 1) (ji mm.li)).setCell (ja w.heap.size 2) (ji mm.ep)).setCell (ja w.heap.size 3) (.slice aN mm.lg.length cN)).setCell (ja w.heap.size 4) (ji mm.sd)).setCell (ja w.heap.size 5) (ji mm.ac)).setCell (ja w.heap.size 6) (ji mm.al)) (.slice aN mm.lg.length cN) mm.lg := (O.base (by omega)).keep (fun g_ e => Dd y6 w.heap.size g_ mm _ (by have := lo g_ e; omega));have D9 : DV w cb ad len cap (((((((y6.setCell (ja w.heap.size 0) (.bool mm.up)).setCell (ja w.heap.size 1) (ji mm.li)).setCell (ja w.heap.size 2) (ji mm.ep)).setCell (ja w.heap.size 3) (.slice aN mm.lg.length cN)).setCell (ja w.heap.size 4) (ji mm.sd)).setCell (ja w.heap.size 5) (ji mm.ac)).setCell (ja w.heap.size 6) (ji mm.al)) := ((((((D.set (Nat.le_refl _) hcb _).set (Nat.le_refl _) hcb _).set (Nat.le_refl _) hcb _).set (Nat.le_refl _) hcb _).set (Nat.le_refl _) hcb _).set (Nat.le_refl _) hcb _).set (Nat.le_refl _) hcb _;have sZ := D9.src hs;have gZ := D9.gr;obtain ⟨z0, z1, z2, z3, z4, z5, z6, zf⟩ := R;have g0 := zf 0;have g1 := zf 1;have g2 := zf 2;have g3 := zf 3;have g4 := zf 4;have g5 := zf 5;have g6 := zf 6;replace N := N.all;clear zf O D D9;go_wp2
     refine bodyPost_ret (v := .agg (mc mm aN cN)) (by simp [results, results78, go_sem, *]) rfl ⟨mm, aN, cN, rfl, hl6, O9, sZ, gZ⟩
    focus
     by_cases h4 : v = 4
     focus
      subst h4;obtain ⟨y4, hy4, kn⟩ := AI y3 (Obj.cells #[ji (-1), ji 0, ji 1, ji 100001] 3);have hg : ∀ i, i < 4 → ∃ z, y4.cell? (ja y3.heap.size i) = some (ji z) ∧ True := by
        intro i h_;rw [hy4];rcases (by omega : i = 0 ∨ i = 1 ∨ i = 2 ∨ i = 3) with rfl | rfl | rfl | rfl
        ·
         exact ⟨-1, by simp [go_sem], trivial⟩
        ·
         exact ⟨0, by simp [go_sem], trivial⟩
        ·
         exact ⟨1, by simp [go_sem], trivial⟩
        ·
         exact ⟨100001, by simp [go_sem], trivial⟩
      have D := D.later8 kn;have R := R.below kn R.lt;have N := N.below kn N.lt;have O := O.later kn;have hne : y3.heap.size ≠ cb := by omega
      go_wp2_with fail
      go_at_call 41
      rw [← hy4];have z4 := kn.size;clear hy4 kn;generalize y3.heap.size = E at hg hne ⊢
      refine (EQ (D.src hs) (fun _ => True) E 4 4 hne (by decide) (by decide) hg).mono ?_;rintro e y5 ⟨u, rfl, _, s_, g5⟩;have z5 := g5.size;clear hg;have D := D.step s_ g5;have R := R.keep (g5.block _ R.lt (by simp; omega));have N := N.keep (g5.block _ N.lt (by simp; omega));have O := O.keep (fun g_ e => g5.block g_ (O.lt g_ e).2 (by have := lo g_ e; simp; omega));clear s_ g5;obtain ⟨mm, hmm⟩ : ∃ q_ : Mi, q_ = ⟨m.up, m.li, u, m.lg, m.sd, m.ac, m.al⟩ := ⟨_, rfl⟩;obtain ⟨y6, hy6⟩ := AB (y5.setCell (ja Q 2) (ji u));have hl6 : mm.lg.length ≤ 61 := by rw [hmm]; show m.lg.length ≤ 61; omega
      have N6 : AV y6 Q mm (.slice a mm.lg.length c) := by rw [hy6, hmm]; exact N.setEp u
      have kp : ∀ k, k ≠ Q → y6.heap[k]? = y5.heap[k]? := fun k hk => by rw [hy6]; exact AE hk
      have R := R.keep (kp _ (by omega));have O6 : AD AS 8 64 y0.heap.size y6 (.slice a mm.lg.length c) mm.lg := by rw [hmm]; exact O.keep (fun g_ e => kp g_ (by have := lo g_ e; omega))
      have lo6 : ∀ g, (Value.slice a mm.lg.length c).ownBlock = some g → y0.heap.size ≤ g ∧ g < Q := by rw [hmm]; exact lo
      have D : DV w cb ad len cap y6 := by rw [hy6]; exact D.set (by omega) hcb _
      obtain ⟨n0, n1, n2, n3, n4, n5, n6, nf⟩ := N;have fj := nf 2
     rotate_left
     ·
      have d0 : (v == 0) = false := by rw [beq_eq_false_iff_ne]; exact h0
      have d1 : (v == 1) = false := by rw [beq_eq_false_iff_ne]; exact h1
      have d2 : (v == 2) = false := by rw [beq_eq_false_iff_ne]; exact h2
      have d3 : (v == 3) = false := by rw [beq_eq_false_iff_ne]; exact h3
      have d4 : (v == 4) = false := by rw [beq_eq_false_iff_ne]; exact h4
      clear h0 h1 h2 h3 h4;have O9 : AD AS 8 64 w.heap.size (((((((y3.setCell (ja w.heap.size 0) (.bool m.up)).setCell (ja w.heap.size 1) (ji m.li)).setCell (ja w.heap.size 2) (ji m.ep)).setCell (ja w.heap.size 3) (.slice a m.lg.length c)).setCell (ja w.heap.size 4) (ji m.sd)).setCell (ja w.heap.size 5) (ji m.ac)).setCell (ja w.heap.size 6) (ji m.al)) (.slice a m.lg.length c) m.lg := (O.base (by omega)).keep (fun g_ e => Dd y3 w.heap.size g_ m _ (by have := lo g_ e; omega));have D9 : DV w cb ad len cap (((((((y3.setCell (ja w.heap.size 0) (.bool m.up)).setCell (ja w.heap.size 1) (ji m.li)).setCell (ja w.heap.size 2) (ji m.ep)).setCell (ja w.heap.size 3) (.slice a m.lg.length c)).setCell (ja w.heap.size 4) (ji m.sd)).setCell (ja w.heap.size 5) (ji m.ac)).setCell (ja w.heap.size 6) (ji m.al)) := ((((((D.set (Nat.le_refl _) hcb _).set (Nat.le_refl _) hcb _).set (Nat.le_refl _) hcb _).set (Nat.le_refl _) hcb _).set (Nat.le_refl _) hcb _).set (Nat.le_refl _) hcb _).set (Nat.le_refl _) hcb _;have sZ := D9.src hs;have gZ := D9.gr;obtain ⟨z0, z1, z2, z3, z4, z5, z6, zf⟩ := R;have g0 := zf 0;have g1 := zf 1;have g2 := zf 2;have g3 := zf 3;have g4 := zf 4;have g5 := zf 5;have g6 := zf 6;replace N := N.all;clear zf O D D9;go_wp2
      refine bodyPost_ret (v := .agg (mc m a c)) (by simp [results, results78, go_sem, *]) rfl ⟨m, a, c, rfl, (by omega), O9, sZ, gZ⟩
    rotate_left
   rotate_left
  rotate_left 2
 rotate_left 3;all_goals
  clear nf kp hmm;go_upto_region 13 with fail
  rw [← hy6];clear hy6 n0 n1 n2 n3 n4 n5 n6 fj O;have N := N6;have O := O6;have lo := lo6;clear N6 O6 lo6;have O9 : AD AS 8 64 w.heap.size (((((((y6.setCell (ja w.heap.size 0) (.bool mm.up)).setCell (ja w.heap.size 1) (ji mm.li)).setCell (ja w.heap.size 2) (ji mm.ep)).setCell (ja w.heap.size 3) (.slice a mm.lg.length c)).setCell (ja w.heap.size 4) (ji mm.sd)).setCell (ja w.heap.size 5) (ji mm.ac)).setCell (ja w.heap.size 6) (ji mm.al)) (.slice a mm.lg.length c) mm.lg := (O.base (by omega)).keep (fun g_ e => Dd y6 w.heap.size g_ mm _ (by have := lo g_ e; omega));have D9 : DV w cb ad len cap (((((((y6.setCell (ja w.heap.size 0) (.bool mm.up)).setCell (ja w.heap.size 1) (ji mm.li)).setCell (ja w.heap.size 2) (ji mm.ep)).setCell (ja w.heap.size 3) (.slice a mm.lg.length c)).setCell (ja w.heap.size 4) (ji mm.sd)).setCell (ja w.heap.size 5) (ji mm.ac)).setCell (ja w.heap.size 6) (ji mm.al)) := ((((((D.set (Nat.le_refl _) hcb _).set (Nat.le_refl _) hcb _).set (Nat.le_refl _) hcb _).set (Nat.le_refl _) hcb _).set (Nat.le_refl _) hcb _).set (Nat.le_refl _) hcb _).set (Nat.le_refl _) hcb _;have sZ := D9.src hs;have gZ := D9.gr;obtain ⟨z0, z1, z2, z3, z4, z5, z6, zf⟩ := R;have g0 := zf 0;have g1 := zf 1;have g2 := zf 2;have g3 := zf 3;have g4 := zf 4;have g5 := zf 5;have g6 := zf 6;replace N := N.all;clear zf O D D9;go_wp2
  refine bodyPost_ret (v := .agg (mc mm a c)) (by simp [results, results78, go_sem, *]) rfl ⟨mm, a, c, rfl, hl6, O9, sZ, gZ⟩
end Go.Proofs.YthgcbihhdbpbdaaGreat
namespace Go.Proofs.YthgcbihhdbpbdaaGreat
open Go.ChangeShapes Go.WideShapes Go.ChangeAt Go.RowKit
open Go.ChangeMaps (open_string shut_string)
set_option linter.unusedVariables false
set_option maxRecDepth 100000
set_option maxHeartbeats 32000000
set_option linter.unusedSimpArgs false
open Go.Proofs.Tryz
def Er (Bs : List AF) : Nat → Nat
 | 0 => 0
 | j + 1 => Er Bs j + (Bs.getD j AF.nil).m.lg.length
theorem I4 (Bs : List AF) {i j : Nat} (h : i ≤ j) : Er Bs i ≤ Er Bs j := by
 induction h with
 | refl => exact Nat.le_refl _
 | step _ ih => exact Nat.le_trans ih (by show _ ≤ Er Bs _ + _; omega)
theorem JI (Bs : List AF) {k : Nat} (h : k < Bs.length) : (Bs.getD k AF.nil).m.lg.length ≤ Er Bs Bs.length :=
 Nat.le_trans (by show _ ≤ Er Bs k + (Bs.getD k AF.nil).m.lg.length; omega) (I4 Bs (i := k + 1) h)
attribute [local go_sem] ji ja
theorem Ch.below {w w' : World} {q o n : Nat} {x : Wi} (h : Ch w q o x) (k : Below n w w') (hq : q < n) : Ch w' q o x :=
 ⟨(World.cell?_of_block (a := (ja q o)) (k.block q hq)).trans h.c0, (World.cell?_of_block (a := ⟨q, o + 1, none⟩) (k.block q hq)).trans h.c1, (World.cell?_of_block (a := ⟨q, o + 2, none⟩) (k.block q hq)).trans h.c2, (World.cell?_of_block (a := ⟨q, o + 3, none⟩) (k.block q hq)).trans h.c3, (World.cell?_of_block (a := ⟨q, o + 4, none⟩) (k.block q hq)).trans h.c4, (World.cell?_of_block (a := ⟨q, o + 5, none⟩) (k.block q hq)).trans h.c5, (World.cell?_of_block (a := ⟨q, o + 6, none⟩) (k.block q hq)).trans h.c6, (World.cell?_of_block (a := ⟨q, o + 7, none⟩) (k.block q hq)).trans h.c7, (World.cell?_of_block (a := ⟨q, o + 8, none⟩) (k.block q hq)).trans h.c8, (World.cell?_of_block (a := ⟨q, o + 9, none⟩) (k.block q hq)).trans h.c9, (World.cell?_of_block (a := ⟨q, o + 10, none⟩) (k.block q hq)).trans h.c10, (World.cell?_of_block (a := ⟨q, o + 11, none⟩) (k.block q hq)).trans h.c11⟩
end Go.Proofs.YthgcbihhdbpbdaaGreat
namespace Go.Proofs.YthgcbihhdbpbdaaGreat
open Go.ChangeShapes Go.WideShapes Go.ChangeAt Go.RowKit
open Go.ChangeMaps (open_string shut_string)
set_option linter.unusedVariables false
set_option maxRecDepth 100000
set_option maxHeartbeats 32000000
set_option linter.unusedSimpArgs false
open Go.Proofs.Tryz
attribute [local go_sem] ji ja
structure Du (w : World) (x : AG) : Prop where
 t : MV w x.aT x.two
 tm : x.two.length ≤ maxLen
 ts : ∀ i, i < x.two.length → (x.two.getD i AF.nil).m.lg.length ≤ maxLen
 tc : x.two.length ≤ x.cT
 tn : x.aT = none → x.cT = 0
 n : AH BA w x.aN x.net
 nm : x.net.length ≤ maxLen
 nn : x.aN = none → x.cN = 0
 g : AH Bj w x.aG x.ga
 gm : x.ga.length ≤ maxLen
 gn : x.aG = none → x.cG = 0
 i : AH AS w x.aL x.ln
 im : x.ln.length ≤ maxLen
 ic : x.aL = none → x.cL = 0
 s : AH Ad w x.aS x.sd
 sm : x.sd.length ≤ maxLen
 sn : x.aS = none → x.cS = 0
theorem Du.below {w w' : World} {x : AG} (h : Du w x) (k : Bw w w') : Du w' x :=
 ⟨h.t.below k (Nat.le_refl _), h.tm, h.ts, h.tc, h.tn, h.n.below k (h.n.lt CX (by omega)), h.nm, h.nn, h.g.below k (h.g.lt DE (by omega)), h.gm, h.gn, h.i.below k (h.i.lt Aa (by omega)), h.im, h.ic, h.s.below k (h.s.lt Bt (by omega)), h.sm, h.sn⟩
structure Et (x : AG) : Prop where
 t : x.two.length ≤ 1048576
 l : Er x.two x.two.length ≤ 1048576
 n : x.net.length ≤ 1048576
 g : x.ga.length ≤ 1048576
 i : x.ln.length ≤ 1048576
 s : x.sd.length ≤ 1048576
theorem Et.ls {x : AG} (h : Et x) : ∀ i, i < x.two.length → (x.two.getD i AF.nil).m.lg.length ≤ 1048576 := fun i hi => Nat.le_trans (JI x.two hi) h.l
theorem Du.v {w : World} {x : AG} (h : Du w x) (k : Et x) : Cs w x :=
 ⟨h.t.row, h.t.nest, h.n, h.g, h.i, h.s, k.t, k.ls, k.n, k.g, k.i, k.s, h.tc⟩
structure HD (lo hi : Nat) (w : World) (x : AG) : Prop where
 t : Ea lo hi w (.slice x.aT x.two.length x.cT) x.two
 n : AD BA 12 75 lo w (.slice x.aN x.net.length x.cN) x.net
 g : AD Bj 1 4 lo w (.slice x.aG x.ga.length x.cG) x.ga
 i : AD AS 8 64 lo w (.slice x.aL x.ln.length x.cL) x.ln
 s : AD Ad 8 77 lo w (.slice x.aS x.sd.length x.cS) x.sd
 nh : ∀ b, (Value.slice x.aN x.net.length x.cN).ownBlock = some b → b < hi
 gh : ∀ b, (Value.slice x.aG x.ga.length x.cG).ownBlock = some b → b < hi
 ih : ∀ b, (Value.slice x.aL x.ln.length x.cL).ownBlock = some b → b < hi
 sh : ∀ b, (Value.slice x.aS x.sd.length x.cS).ownBlock = some b → b < hi
 ap : ∀ j, j < x.two.length → ∀ b, (x.two.getD j AF.nil).v.ownBlock = some b → (Value.slice x.aL x.ln.length x.cL).ownBlock ≠ some b
theorem HD.in_ {lo hi : Nat} {w : World} {x : AG} (h : HD lo hi w x) (k : Et x) : Du w x := by
 have hm : (1048576 : Nat) ≤ maxLen := by unfold maxLen; omega
 exact ⟨h.t.view.2, Nat.le_trans k.t hm, fun i hi => Nat.le_trans (k.ls i hi) hm, h.t.row.capM, fun e => Ef (by have := h.t.row; rw [e] at this; exact this), h.n.view.2, Nat.le_trans k.n hm, fun e => Ef (by have := h.n; rw [e] at this; exact this), h.g.view.2, Nat.le_trans k.g hm, fun e => Ef (by have := h.g; rw [e] at this; exact this), h.i.view.2, Nat.le_trans k.i hm, fun e => Ef (by have := h.i; rw [e] at this; exact this), h.s.view.2, Nat.le_trans k.s hm, fun e => Ef (by have := h.s; rw [e] at this; exact this)⟩
end Go.Proofs.YthgcbihhdbpbdaaGreat
namespace Go.Proofs.YthgcbihhdbpbdaaGreat
open Go.ChangeShapes Go.WideShapes Go.ChangeAt Go.RowKit
open Go.ChangeMaps (open_string shut_string)
set_option linter.unusedVariables false
set_option maxRecDepth 100000
set_option maxHeartbeats 32000000
set_option linter.unusedSimpArgs false
open Go.Proofs.Tryz
structure HC (lo mid hi : Nat) (w : World) (x : AG) : Prop where
 t : Ea lo mid w (.slice x.aT x.two.length x.cT) x.two
 n : AD BA 12 75 mid w (.slice x.aN x.net.length x.cN) x.net
 g : AD Bj 1 4 mid w (.slice x.aG x.ga.length x.cG) x.ga
 i : AD AS 8 64 mid w (.slice x.aL x.ln.length x.cL) x.ln
 s : AD Ad 8 77 mid w (.slice x.aS x.sd.length x.cS) x.sd
 nh : ∀ b, (Value.slice x.aN x.net.length x.cN).ownBlock = some b → b < hi
 gh : ∀ b, (Value.slice x.aG x.ga.length x.cG).ownBlock = some b → b < hi
 ih : ∀ b, (Value.slice x.aL x.ln.length x.cL).ownBlock = some b → b < hi
 sh : ∀ b, (Value.slice x.aS x.sd.length x.cS).ownBlock = some b → b < hi
 lm : lo ≤ mid
 mh : mid ≤ hi
theorem HC.m {lo mid hi : Nat} {w : World} {x : AG} (h : HC lo mid hi w x) : HD lo hi w x :=
 ⟨h.t.wide (Nat.le_refl _) h.mh, h.n.base h.lm, h.g.base h.lm, h.i.base h.lm, h.s.base h.lm, h.nh, h.gh, h.ih, h.sh, fun j hj b e e2 => by
  have h1 := h.t.nhi j hj b e
  have h2 := (h.i.lt b e2).1
  omega⟩
attribute [local go_sem] ji ja
def DA : List AF := [⟨⟨true, 1, 1, [], 0, 0, 0⟩, none, 0⟩, ⟨⟨true, 2, 0, [], 0, 0, 0⟩, none, 0⟩]
theorem AD.nilM {X : Type} {enc : X → List Value} {n : Nat} {T : TypeId} {base : Nat} {w : World} : AD enc n T base w (.slice none 0 0) ([] : List X) := ⟨by simp [Ac], .inl ⟨rfl, rfl⟩⟩
theorem Jy (w : World) : Ea w.heap.size (w.heap.size + 1) (w.alloc (Obj.cells #[.bool true, ji 1, ji 1, .slice none 0 0, ji 0, ji 0, ji 0, .bool true, ji 2, ji 0, .slice none 0 0, ji 0, ji 0, ji 0] 52)) (.slice (some (ja w.heap.size 0)) 2 2) DA := by
 have hn : ∀ i, i < DA.length → (DA.getD i AF.nil).v = .slice none 0 0 ∧ (DA.getD i AF.nil).m.lg = [] := fun i hi => by
  match i, hi with
  | 0, _ => exact ⟨rfl, rfl⟩
  | 1, _ => exact ⟨rfl, rfl⟩
 have hb : ∀ i, i < DA.length → ∀ g, (DA.getD i AF.nil).v.ownBlock ≠ some g := fun i hi g e => by
  rw [(hn i hi).1] at e;cases e
 refine ⟨⟨rfl, .inr ⟨w.heap.size, 2, #[.bool true, ji 1, ji 1, .slice none 0 0, ji 0, ji 0, ji 0, .bool true, ji 2, ji 0, .slice none 0 0, ji 0, ji 0, ji 0], rfl, Nat.le_refl _, Cy w _, Nat.le_refl _, by unfold maxLen; omega, rfl, rfl⟩⟩, fun i hi => ?_, fun g e => ?_, fun i hi g e => absurd e (hb i hi g), fun i hi g h _ e => absurd e (hb i hi h), fun i j _ hj g h _ e => absurd e (hb j hj h)⟩
 ·
  rw [(hn i hi).1, (hn i hi).2];exact AD.nilM
 obtain rfl : w.heap.size = g := by simpa [Value.ownBlock] using e
 omega
theorem H6 (id po : Int) : (Ap id po).length ≤ 4 := by
 unfold Ap;split
 ·
  next h =>
  unfold Ay at h;simp at h ⊢
  omega
 simp
theorem I1 (id po : Int) : AX (E8 id po) = Ay id po := by
 cases h : Ay id po
 ·
  unfold AX E8;simp [h]
 exact Ho h
def FA (id po : Int) : Bx := if Ay id po then E8 id po else AG.zero.p
theorem ID (id po : Int) (q : Nat) (a : Option Addr) (c : Nat) : AG.p ⟨id, po, ⟨1, 0, 0⟩, DA, some (ja q 0), 2, [], none, 0, BK (Ap id po), a, c, [], none, 0, [], none, 0⟩ = E8 id po := rfl
theorem Ft (id po : Int) (q : Nat) (a : Option Addr) (c : Nat) : Et ⟨id, po, ⟨1, 0, 0⟩, DA, some (ja q 0), 2, [], none, 0, BK (Ap id po), a, c, [], none, 0, [], none, 0⟩ := by
 have h := H6 id po;have hg : (BK (Ap id po)).length ≤ 4 := by rw [Ed]; exact h
 refine ⟨?_, ?_, Nat.zero_le _, ?_, Nat.zero_le _, Nat.zero_le _⟩
 ·
  show (2 : Nat) ≤ _; omega
 ·
  show (0 : Nat) ≤ _; omega
 show (BK (Ap id po)).length ≤ _; omega
theorem Hx : Et AG.zero := ⟨Nat.zero_le _, Nat.zero_le _, Nat.zero_le _, Nat.zero_le _, Nat.zero_le _, Nat.zero_le _⟩
theorem Kl {lo hi : Nat} {w : World} (h : lo ≤ hi) : HC lo lo hi w AG.zero := by
 refine ⟨⟨AD.nilM, fun i hi => absurd hi (Nat.not_lt_zero _), fun g e => (by cases e), fun i hi => absurd hi (Nat.not_lt_zero _), fun i hi => absurd hi (Nat.not_lt_zero _), fun i j _ hj => absurd hj (Nat.not_lt_zero _)⟩, AD.nilM, AD.nilM, AD.nilM, AD.nilM, fun b e => (by cases e), fun b e => (by cases e), fun b e => (by cases e), fun b e => (by cases e), Nat.le_refl _, h⟩
end Go.Proofs.YthgcbihhdbpbdaaGreat
namespace Go.Proofs.YthgcbihhdbpbdaaGreat
open Go.ChangeShapes Go.WideShapes Go.ChangeAt Go.RowKit
open Go.ChangeMaps (open_string shut_string)
set_option linter.unusedVariables false
set_option maxRecDepth 100000
set_option maxHeartbeats 32000000
set_option linter.unusedSimpArgs false
open Go.Proofs.Tryz
attribute [local go_sem] ji ja bc
structure Id (B : Nat) (x : AG) : Prop where
 t : ∀ a, x.aT = some a → 0 < x.two.length → B ≤ a.block
 l : ∀ i, i < x.two.length → ∀ a, (x.two.getD i AF.nil).ad = some a → 0 < (x.two.getD i AF.nil).m.lg.length → B ≤ a.block
 n : ∀ a, x.aN = some a → 0 < x.net.length → B ≤ a.block
 g : ∀ a, x.aG = some a → 0 < x.ga.length → B ≤ a.block
 i : ∀ a, x.aL = some a → 0 < x.ln.length → B ≤ a.block
 s : ∀ a, x.aS = some a → 0 < x.sd.length → B ≤ a.block
theorem Du.keptN {w w' : World} {x : AG} {n : Nat} (h : Du w x) (hin : Id n x) (k : ∀ g, n ≤ g → w'.heap[g]? = w.heap[g]?) : Du w' x :=
 ⟨⟨h.t.row.carry (fun a e p => k _ (hin.t a e p)), fun i hi => (h.t.nest i hi).carry (fun a e p => k _ (hin.l i hi a e p)), h.t.nil0⟩, h.tm, h.ts, h.tc, h.tn, h.n.carry (fun a e p => k _ (hin.n a e p)), h.nm, h.nn, h.g.carry (fun a e p => k _ (hin.g a e p)), h.gm, h.gn, h.i.carry (fun a e p => k _ (hin.i a e p)), h.im, h.ic, h.s.carry (fun a e p => k _ (hin.s a e p)), h.sm, h.sn⟩
theorem Ky (id po : Int) (w : World) :
  Calls prog 8 #[ji id, ji po] w fun e w' => ∃ x2 : AG, (e = .returned (.tuple #[.agg (bc x2), .bool (Ay id po)]) ∧ x2.p = FA id po ∧ Et x2) ∧ Du w' x2 ∧ Bw w w' := by
 obtain ⟨y, hy, B0⟩ := AI w (Obj.cells #[ji 0, ji 0, ji 0, ji 0, ji 0, .slice none 0 0, .slice none 0 0, .slice none 0 0, .slice none 0 0, .slice none 0 0] 34);have Z : AW y w.heap.size AG.zero := by rw [hy]; refine ⟨?_, fun i => ?_⟩; constructor <;> simp [go_sem, AG.zero]; simp [go_sem]
 go_enter func8, ntmps8
 go_wp2_with fail
 go_at_call 14
 rw [← hy];clear hy;refine (F1 id po y).mono ?_;rintro e u0 ⟨ad', cap', rfl, O', k0⟩;have Z := Z.below k0 Z.lt;have B1 := AA B0 k0;have s0 := k0.size;have zl := Z.lt;clear k0 B0;obtain ⟨u1, hu1, kk⟩ := AI u0 (Obj.cells #[ji (Bf id po), .slice ad' (Ap id po).length cap'] 42);have BB : Ab u1 u0.heap.size (Bf id po) (.slice ad' (Ap id po).length cap') := by rw [hu1]; exact Ab.new u0 _ _ _
 have Z := Z.below kk Z.lt;have O' := O'.later kk;have B2 := AA B1 kk;have s1 := BB.lt;clear kk B1;go_upto_region 2 with fail
 rw [← hu1];clear hu1;obtain ⟨qb, hqb⟩ := AB u0.heap.size;rw [← hqb] at BB s1 ⊢;replace hqb := Nat.le_of_eq hqb.symm;obtain ⟨bb0, bb1⟩ := _root_.id BB;go_wp2_with fail
 go_at_call 35
 clear bb0 bb1;refine (Hr (Bf id po) ad' cap' (Ap id po) u1 O'.view.2 (Nat.le_trans (H6 id po) (by omega))).mono ?_;rintro e u2 ⟨aG, cG, rfl, OG, k2⟩;have lG : ∀ g, (Value.slice aG (BK (Ap id po)).length cG).ownBlock = some g → g < u2.heap.size := fun g e => (OG.lt g e).2
 have Z := Z.below k2 Z.lt;have B3 := AA B2 k2;have s2 := k2.size;clear k2 B2 BB O';obtain ⟨u3, hu3, kk⟩ := AI u2 (Obj.cells #[ji id, ji po, ji 1, ji 0, ji 0, .slice none 0 0, .slice none 0 0, .slice aG (BK (Ap id po)).length cG, .slice none 0 0, .slice none 0 0] 34);have Hb : AW u3 u2.heap.size ⟨id, po, ⟨1, 0, 0⟩, [], none, 0, [], none, 0, BK (Ap id po), aG, cG, [], none, 0, [], none, 0⟩ := by rw [hu3]; refine ⟨?_, fun i => ?_⟩; constructor <;> simp [go_sem]; simp [go_sem]
 have Z := Z.below kk Z.lt;have OG := OG.later kk;have B4 := AA B3 kk;have s3 := Hb.lt;clear kk B3;go_upto_region 3 with fail
 rw [← hu3];clear hu3;obtain ⟨qh, hqh⟩ := AB u2.heap.size;rw [← hqh] at Hb s3 ⊢;have hqh1 := Nat.le_of_eq hqh;replace hqh := Nat.le_of_eq hqh.symm;have Hb3 := Hb;obtain ⟨u4, hu4⟩ := AB (u3.setCell (ja qh 5) (.slice (some (ja u3.heap.size 0)) 2 2));have Hc := Hb.sT DA (some (ja u3.heap.size 0)) 2 2 rfl;rw [← hu4] at Hc;have kp : ∀ k, k ≠ qh → u4.heap[k]? = u3.heap[k]? := fun k hk => by rw [hu4, AE hk]
 have Z := Z.keep (kp _ (by omega));have OG := OG.keep (fun g e => kp g (by have := lG g e; omega));have B5 : Bw w u4 := by rw [hu4]; exact B4.setCell (p := (ja qh 5)) (by show _ ≤ qh; omega) _
 have s45 : u4.heap.size = u3.heap.size := by rw [hu4]; simp
 obtain ⟨u5, hu5, kk⟩ := AI u4 (Obj.cells #[.bool true, ji 1, ji 1, .slice none 0 0, ji 0, ji 0, ji 0, .bool true, ji 2, ji 0, .slice none 0 0, ji 0, ji 0, ji 0] 52);have OT : Ea u4.heap.size (u4.heap.size + 1) u5 (.slice (some (ja u4.heap.size 0)) 2 2) DA := by rw [hu5]; exact Jy u4
 have Z := Z.below kk Z.lt;have Hc := Hc.below kk Hc.lt;have OG := OG.later kk;have B6 := AA B5 kk;have s4 : u4.heap.size < u5.heap.size := by rw [hu5]; simp
 rw [s45] at OT s4;replace s45 := Nat.le_of_eq s45;clear kk B4 kp Hb;obtain ⟨⟨h0, h1, h2, h3, h4, h5, h6, h7, h8, h9⟩, hf⟩ := Hb3;have hf5 := hf 5;clear hf;go_upto_region 4 with fail
 rw [← hu4, ← hu5];clear hu4 hu5 h0 h1 h2 h3 h4 h5 h6 h7 h8 h9 hf5 B5;obtain ⟨q2, hq2⟩ := AB u3.heap.size;rw [← hq2] at Hc OT s4 ⊢;replace hq2 := Nat.le_of_eq hq2.symm;have J : Du u5 ⟨id, po, ⟨1, 0, 0⟩, DA, some (ja q2 0), 2, [], none, 0, BK (Ap id po), aG, cG, [], none, 0, [], none, 0⟩ := by
  have hv := OT.view.2;exact ⟨hv, by show (2 : Nat) ≤ _; unfold maxLen; omega, fun i hi => Nat.le_trans ((Ft id po q2 aG cG).ls i hi) (by unfold maxLen; omega), Nat.le_refl _, (fun e => by cases e), AH.nil, Nat.zero_le _, fun _ => rfl, OG.view.2, Nat.le_trans (Ft id po q2 aG cG).g (by unfold maxLen; omega), fun e => Ef (by have e1 : aG = none := e; have := OG; rw [e1] at this; exact this), AH.nil, Nat.zero_le _, fun _ => rfl, AH.nil, Nat.zero_le _, fun _ => rfl⟩
 have hap : Id (w.heap.size + 1) ⟨id, po, ⟨1, 0, 0⟩, DA, some (ja q2 0), 2, [], none, 0, BK (Ap id po), aG, cG, [], none, 0, [], none, 0⟩ := by
  refine ⟨fun a e _ => ?_, fun i hi a e _ => ?_, fun a e => (by cases e), fun a e p => ?_, fun a e => (by cases e), fun a e => (by cases e)⟩
  ·
   cases e; show _ ≤ q2; omega
  ·
   match i, hi, e with
   | 0, _, e => cases e
   | 1, _, e => cases e
  have e : aG = some a := e;have hg := OG.lt a.block (by rw [e]; rfl);omega
 obtain ⟨⟨h0, h1, h2, h3, h4, h5, h6, h7, h8, h9⟩, hf⟩ := _root_.id Hc;go_wp2_with fail
 go_at_call 17
 clear h0 h1 h2 h3 h4 h5 h6 h7 h8 h9 hf;refine (E7 ⟨id, po, ⟨1, 0, 0⟩, DA, some (ja q2 0), 2, [], none, 0, BK (Ap id po), aG, cG, [], none, 0, [], none, 0⟩ u5 (J.v (Ft id po q2 aG cG))).mono ?_;rintro e u6 ⟨rfl, k6⟩;rw [ID, I1];have Z := Z.below k6 Z.lt;have Hc := Hc.below k6 Hc.lt;have J := J.below k6;have B7 := AA B6 k6;have s6 := k6.size;clear k6 B6 OT OG;cases h1 : Ay id po
 ·
  have hX : Hid (FA id po = AG.zero.p) := by unfold Hid FA; rw [h1]; rfl
  replace h1 : Hid _ := h1;obtain ⟨W9, hW9⟩ := AB ((((((((((u6.setCell (ja w.heap.size 0) (ji 0)).setCell (ja w.heap.size 1) (ji 0)).setCell (ja w.heap.size 2) (ji 0)).setCell (ja w.heap.size 3) (ji 0)).setCell (ja w.heap.size 4) (ji 0)).setCell (ja w.heap.size 5) (.slice none 0 0)).setCell (ja w.heap.size 6) (.slice none 0 0)).setCell (ja w.heap.size 7) (.slice none 0 0)).setCell (ja w.heap.size 8) (.slice none 0 0)).setCell (ja w.heap.size 9) (.slice none 0 0));have ZZ : AW W9 w.heap.size AG.zero := by rw [hW9]; exact Z.put AG.zero
  have kp : ∀ k, k ≠ w.heap.size → W9.heap[k]? = u6.heap[k]? := fun k hk => by rw [hW9, AE hk, AE hk, AE hk, AE hk, AE hk, AE hk, AE hk, AE hk, AE hk, AE hk]
  have B9 : Bw w W9 := by rw [hW9]; exact ((((((((((B7.setCell (p := (ja w.heap.size 0)) (Nat.le_refl _) _).setCell (p := (ja w.heap.size 1)) (Nat.le_refl _) _).setCell (p := (ja w.heap.size 2)) (Nat.le_refl _) _).setCell (p := (ja w.heap.size 3)) (Nat.le_refl _) _).setCell (p := (ja w.heap.size 4)) (Nat.le_refl _) _).setCell (p := (ja w.heap.size 5)) (Nat.le_refl _) _).setCell (p := (ja w.heap.size 6)) (Nat.le_refl _) _).setCell (p := (ja w.heap.size 7)) (Nat.le_refl _) _).setCell (p := (ja w.heap.size 8)) (Nat.le_refl _) _).setCell (p := (ja w.heap.size 9)) (Nat.le_refl _) _)
  have s9 : W9.heap.size = u6.heap.size := by rw [hW9]; simp
  have hM : Du W9 AG.zero := ((Kl (lo := 0) (hi := 0) (w := W9) (Nat.le_refl _)).m).in_ Hx;obtain ⟨⟨t0, t1, t2, t3, t4, t5, t6, t7, t8, t9⟩, tf⟩ := ZZ;clear tf;try dsimp only [AG.zero] at t0 t1 t2 t3 t4 t5 t6 t7 t8 t9
  try rw [show DA.length = 2 from rfl] at t5
  obtain ⟨⟨z0, z1, z2, z3, z4, z5, z6, z7, z8, z9⟩, zf⟩ := _root_.id Z;obtain ⟨e0, e1, e2, e3, e4, e5, e6, e7, e8, e9⟩ := Cj zf;clear zf;go_wp2
  refine bodyPost_ret (v := .tuple #[.agg #[ji 0, ji 0, ji 0, ji 0, ji 0, .slice none 0 0, .slice none 0 0, .slice none 0 0, .slice none 0 0, .slice none 0 0], .bool false]) (by simp [results, results8, go_sem, *]) rfl ⟨AG.zero, ⟨by rw [h1.out]; rfl, hX.out.symm, Hx⟩, ?_, ?_⟩
  ·
   rw [← hW9]; exact hM
  rw [← hW9]; exact B9
 have hX : Hid (FA id po = E8 id po) := by unfold Hid FA; rw [h1]; rfl
 replace h1 : Hid _ := h1;obtain ⟨⟨c0, c1, c2, c3, c4, c5, c6, c7, c8, c9⟩, cf⟩ := _root_.id Hc;clear cf;rw [show DA.length = 2 from rfl] at c5;obtain ⟨W9, hW9⟩ := AB ((((((((((u6.setCell (ja w.heap.size 0) (ji id)).setCell (ja w.heap.size 1) (ji po)).setCell (ja w.heap.size 2) (ji 1)).setCell (ja w.heap.size 3) (ji 0)).setCell (ja w.heap.size 4) (ji 0)).setCell (ja w.heap.size 5) (.slice (some (ja q2 0)) 2 2)).setCell (ja w.heap.size 6) (.slice none 0 0)).setCell (ja w.heap.size 7) (.slice aG (BK (Ap id po)).length cG)).setCell (ja w.heap.size 8) (.slice none 0 0)).setCell (ja w.heap.size 9) (.slice none 0 0));have ZZ : AW W9 w.heap.size ⟨id, po, ⟨1, 0, 0⟩, DA, some (ja q2 0), 2, [], none, 0, BK (Ap id po), aG, cG, [], none, 0, [], none, 0⟩ := by rw [hW9]; exact Z.put ⟨id, po, ⟨1, 0, 0⟩, DA, some (ja q2 0), 2, [], none, 0, BK (Ap id po), aG, cG, [], none, 0, [], none, 0⟩
 have kp : ∀ k, k ≠ w.heap.size → W9.heap[k]? = u6.heap[k]? := fun k hk => by rw [hW9, AE hk, AE hk, AE hk, AE hk, AE hk, AE hk, AE hk, AE hk, AE hk, AE hk]
 have B9 : Bw w W9 := by rw [hW9]; exact ((((((((((B7.setCell (p := (ja w.heap.size 0)) (Nat.le_refl _) _).setCell (p := (ja w.heap.size 1)) (Nat.le_refl _) _).setCell (p := (ja w.heap.size 2)) (Nat.le_refl _) _).setCell (p := (ja w.heap.size 3)) (Nat.le_refl _) _).setCell (p := (ja w.heap.size 4)) (Nat.le_refl _) _).setCell (p := (ja w.heap.size 5)) (Nat.le_refl _) _).setCell (p := (ja w.heap.size 6)) (Nat.le_refl _) _).setCell (p := (ja w.heap.size 7)) (Nat.le_refl _) _).setCell (p := (ja w.heap.size 8)) (Nat.le_refl _) _).setCell (p := (ja w.heap.size 9)) (Nat.le_refl _) _)
 have s9 : W9.heap.size = u6.heap.size := by rw [hW9]; simp
 have hM : Du W9 ⟨id, po, ⟨1, 0, 0⟩, DA, some (ja q2 0), 2, [], none, 0, BK (Ap id po), aG, cG, [], none, 0, [], none, 0⟩ := J.keptN hap (fun g hg => kp g (fun e => by omega));obtain ⟨⟨t0, t1, t2, t3, t4, t5, t6, t7, t8, t9⟩, tf⟩ := ZZ;clear tf;try dsimp only [AG.zero] at t0 t1 t2 t3 t4 t5 t6 t7 t8 t9
 try rw [show DA.length = 2 from rfl] at t5
 obtain ⟨⟨z0, z1, z2, z3, z4, z5, z6, z7, z8, z9⟩, zf⟩ := _root_.id Z;obtain ⟨e0, e1, e2, e3, e4, e5, e6, e7, e8, e9⟩ := Cj zf;clear zf;go_wp2
 refine bodyPost_ret (v := .tuple #[.agg #[ji id, ji po, ji 1, ji 0, ji 0, .slice (some (ja q2 0)) 2 2, .slice none 0 0, .slice aG (BK (Ap id po)).length cG, .slice none 0 0, .slice none 0 0], .bool true]) (by simp [results, results8, go_sem, *]) rfl ⟨⟨id, po, ⟨1, 0, 0⟩, DA, some (ja q2 0), 2, [], none, 0, BK (Ap id po), aG, cG, [], none, 0, [], none, 0⟩, ⟨by rw [h1.out]; rfl, (ID id po q2 aG cG).trans hX.out.symm, Ft id po q2 aG cG⟩, ?_, ?_⟩
 ·
  rw [← hW9]; exact hM
 rw [← hW9]; exact B9
theorem BE.belowJ {w w' : World} {q o n : Nat} {x : AF} (h : BE w q o x) (k : Below n w w') (hq : q < n) : BE w' q o x :=
 ⟨(World.cell?_of_block (a := (ja q o)) (k.block q hq)).trans h.c0, (World.cell?_of_block (a := ⟨q, o + 1, none⟩) (k.block q hq)).trans h.c1, (World.cell?_of_block (a := ⟨q, o + 2, none⟩) (k.block q hq)).trans h.c2, (World.cell?_of_block (a := ⟨q, o + 3, none⟩) (k.block q hq)).trans h.c3, (World.cell?_of_block (a := ⟨q, o + 4, none⟩) (k.block q hq)).trans h.c4, (World.cell?_of_block (a := ⟨q, o + 5, none⟩) (k.block q hq)).trans h.c5, (World.cell?_of_block (a := ⟨q, o + 6, none⟩) (k.block q hq)).trans h.c6⟩
theorem DU {x : AG} (h : AX x.p = true) : x.two.length = 2 ∧ (∀ k, k < 2 → Aq (x.two.getD k AF.nil).m = true) ∧ x.net.length ≤ 20 ∧ x.ga.length ≤ 4 ∧ x.ln.length ≤ 60 ∧ x.sd.length ≤ 40 := by
 obtain ⟨h1, h2, h3, h4, h5, h6, h7, h8, h9, h10⟩ := Dj.1 h;have e : x.two.length = 2 := by have h3 : (x.two.map AF.m).length = 2 := h3; simpa using h3
 refine ⟨e, ?_, h7, ?_, ?_, h10⟩
 ·
  intro k hk;rcases (by omega : k = 0 ∨ k = 1) with rfl | rfl
  ·
   rw [CC] at h4; exact h4
  rw [CC] at h5; exact h5
 ·
  unfold Ay at h1;simp only [Bool.and_eq_true, decide_eq_true_eq] at h1;have h8 : (x.ga.length : Int) = x.po := h8;have := h1.2.2;have h9 : x.p.po = x.po := rfl;omega
 unfold Co at h9;simp only [Bool.and_eq_true, decide_eq_true_eq] at h9;exact h9.2
theorem Hp {m : Mi} (h : Aq m = true) : m.lg.length ≤ 60 := by
 obtain ⟨_, _, _, h4, _⟩ := E1.1 h;unfold Co at h4;simp only [Bool.and_eq_true, decide_eq_true_eq] at h4;exact h4.2
def YN (e : Ending) (Q : Prop) : Prop := ∃ R : Bool, e = .returned (.bool R) ∧ (R = true ↔ Q)
theorem YN.no {Q : Prop} (h : ¬ Q) : YN (.returned (.bool false)) Q := ⟨false, rfl, ⟨fun h => (by cases h), fun q => absurd q h⟩⟩
theorem YN.yes {Q : Prop} (h : Q) : YN (.returned (.bool true)) Q := ⟨true, rfl, ⟨fun _ => h, fun _ => rfl⟩⟩
theorem YN.is {Q : Prop} {R : Bool} (h : R = true ↔ Q) : YN (.returned (.bool R)) Q := ⟨R, rfl, h⟩
def Cu (id : Int) (L : List Pt) (X : List Ik) : List Ou := (X.foldl (fun p x => (Ba id p.1 x, p.2 ++ BT id p.1 x)) (L, ([] : List Ou))).2
theorem Ix (id : Int) (X : List Ik) : ∀ (L : List Pt) (P : List Ou), X.foldl (fun p x => (Ba id p.1 x, p.2 ++ BT id p.1 x)) (L, P) = (CL id L X, P ++ Cu id L X) := by
 induction X with
 | nil => intro L P; simp [Cu, CL]
 | cons x X ih =>
  intro L P;have h1 := ih (Ba id L x) (P ++ BT id L x);have h2 := ih (Ba id L x) ([] ++ BT id L x);have h3 : Cu id L (x :: X) = (X.foldl (fun p x => (Ba id p.1 x, p.2 ++ BT id p.1 x)) (Ba id L x, [] ++ BT id L x)).2 := rfl;rw [List.foldl_cons, h3, h2];show X.foldl (fun p x => (Ba id p.1 x, p.2 ++ BT id p.1 x)) (Ba id L x, P ++ BT id L x) = _;rw [h1];simp [CL]
theorem In (id : Int) (L : List Pt) (X : List Ik) (x : Ik) : Cu id L (X ++ [x]) = Cu id L X ++ BT id (CL id L X) x := by
 have h1 := Ix id X L [];unfold Cu;rw [List.foldl_append, h1];simp [Cu]
theorem GL (id : Int) (L : List Pt) (X : List Ik) (d : Ik) {k : Nat} (hk : k < X.length) : Cu id L (X.take (k + 1)) = Cu id L (X.take k) ++ BT id (CL id L (X.take k)) (X.getD k d) := by
 rw [List.take_add_one];have e : X[k]?.toList = [X.getD k d] := by simp [List.getD, hk]
 rw [e, In]
theorem Iy (id : Int) (L : List Pt) (X : List Ik) : (Cu id L X).length ≤ 8 * X.length := by
 have h : ∀ k, k ≤ X.length → (Cu id L (X.take k)).length ≤ 8 * k := by
  intro k;induction k with
  | zero => intro _; simp [Cu]
  | succ k ih =>
   intro hk;rw [GL id L X Ao (by omega), List.length_append];have := ih (by omega);have := Ff id (CL id L (X.take k)) (X.getD k Ao);omega
 have := h X.length (Nat.le_refl _);rwa [List.take_length] at this
def Dh (x : Bx) : Prop := BK (Ck x.id x.po x.ln) = x.ga
def Dm (x : Bx) : Prop := Bv (Cu (Bf x.id x.po) (Ap x.id x.po) x.ln) = x.sd
def CU (A B : List Ik) : Prop := B.take A.length = A
theorem Hv {A B : List Ik} (h : CU A B) : A.length ≤ B.length := by
 have := congrArg List.length h;rw [List.length_take] at this;omega
def Da (x : Bx) : Prop := Bh x x.rg.ow = true → CU x.ln (AT x x.rg.ow).lg ∧ (AT x x.rg.ow).sd = (x.ln.length : Int)
def DG (x : Bx) : Prop := (AT x (1 - x.rg.ow)).up = true ∧ 0 < (AT x (1 - x.rg.ow)).li ∧ (AT x (1 - x.rg.ow)).li = x.rg.pa ∧ (AT x (1 - x.rg.ow)).ep = 0
def DN (x : Bx) : Prop := DG x → CU x.ln (AT x (1 - x.rg.ow)).lg
structure Ct (w : World) (x : AG) : Prop where
 v : Cs w x
 c : ∀ i, i < x.two.length → (x.two.getD i AF.nil).m.lg.length ≤ (x.two.getD i AF.nil).cap
theorem Ct.later {w w' : World} {x : AG} (h : Ct w x) (k : Bw w w') : Ct w' x := ⟨h.v.later k, h.c⟩
theorem E2 {x : AG} (h : AX x.p = true) : 0 ≤ x.rg.ow ∧ x.rg.ow ≤ 1 := by
 obtain ⟨h1, h2, _⟩ := Dj.1 h;have h2 : BR x.rg = true := h2;unfold BR at h2;simp only [Bool.and_eq_true, decide_eq_true_eq] at h2;omega
attribute [local go_sem] ic
theorem HO (x : Ik) (w : World) : (binOp .neq 64 (.agg #[ji x.k, ji x.q, ji x.r, ji x.c, ji x.b, ji x.p, ji x.h, .bool x.up]) (.agg #[ji x.k, ji x.q, ji x.r, ji x.c, ji x.b, ji x.p, ji x.h, .bool x.up])).run prog w = .ok (.bool false) w := by
 simp [go_sem]
theorem HP {x y : Ik} (h : x ≠ y) (w : World) : (binOp .neq 64 (.agg #[ji x.k, ji x.q, ji x.r, ji x.c, ji x.b, ji x.p, ji x.h, .bool x.up]) (.agg #[ji y.k, ji y.q, ji y.r, ji y.c, ji y.b, ji y.p, ji y.h, .bool y.up])).run prog w = .ok (.bool true) w := by
 by_cases h0 : x.k = y.k
 rotate_left
 ·
  simp [go_sem, h0]
 by_cases h1 : x.q = y.q
 rotate_left
 ·
  simp [go_sem, h1]
 by_cases h2 : x.r = y.r
 rotate_left
 ·
  simp [go_sem, h2]
 by_cases h3 : x.c = y.c
 rotate_left
 ·
  simp [go_sem, h3]
 by_cases h4 : x.b = y.b
 rotate_left
 ·
  simp [go_sem, h4]
 by_cases h5 : x.p = y.p
 rotate_left
 ·
  simp [go_sem, h5]
 by_cases h6 : x.h = y.h
 rotate_left
 ·
  simp [go_sem, h6]
 by_cases h7 : x.up = y.up
 rotate_left
 ·
  simp [go_sem, h7]
 exact absurd (by cases x; cases y; simp_all) h
theorem HM (x : Ou) (w : World) : (binOp .neq 77 (.agg #[ji x.k, ji x.pt, ji x.r, ji x.c, ji x.b, ji x.p, ji x.h, .bool x.on]) (.agg #[ji x.k, ji x.pt, ji x.r, ji x.c, ji x.b, ji x.p, ji x.h, .bool x.on])).run prog w = .ok (.bool false) w := by
 simp [go_sem]
theorem HN {x y : Ou} (h : x ≠ y) (w : World) : (binOp .neq 77 (.agg #[ji x.k, ji x.pt, ji x.r, ji x.c, ji x.b, ji x.p, ji x.h, .bool x.on]) (.agg #[ji y.k, ji y.pt, ji y.r, ji y.c, ji y.b, ji y.p, ji y.h, .bool y.on])).run prog w = .ok (.bool true) w := by
 by_cases h0 : x.k = y.k
 rotate_left
 ·
  simp [go_sem, h0]
 by_cases h1 : x.pt = y.pt
 rotate_left
 ·
  simp [go_sem, h1]
 by_cases h2 : x.r = y.r
 rotate_left
 ·
  simp [go_sem, h2]
 by_cases h3 : x.c = y.c
 rotate_left
 ·
  simp [go_sem, h3]
 by_cases h4 : x.b = y.b
 rotate_left
 ·
  simp [go_sem, h4]
 by_cases h5 : x.p = y.p
 rotate_left
 ·
  simp [go_sem, h5]
 by_cases h6 : x.h = y.h
 rotate_left
 ·
  simp [go_sem, h6]
 by_cases h7 : x.on = y.on
 rotate_left
 ·
  simp [go_sem, h7]
 exact absurd (by cases x; cases y; simp_all) h
theorem LF (ad ad' : Option Addr) (cap cap' : Nat) (L L' : List Ik) (w : World) (hv : AH AS w ad L) (hv' : AH AS w ad' L') (hl : L.length ≤ 1048576) (hl' : L'.length ≤ 1048576) :
  Calls prog 139 #[.slice ad L.length cap, .slice ad' L'.length cap'] w fun e w' => YN e (L = L') ∧ Bw w w' := by
 suffices H : ∀ Q : Prop, Hid (Q ↔ L = L') → Calls prog 139 #[.slice ad L.length cap, .slice ad' L'.length cap'] w fun e w' => YN e Q ∧ Bw w w' from H _ Iff.rfl
 intro Q hQ;have hB := hv.lt Aa (by omega);have hB' := hv'.lt Aa (by omega);by_cases hle : (L.length : Int) = (L'.length : Int)
 rotate_left
 ·
  have d1 : ((L.length : Int) != (L'.length : Int)) = true := by simp; omega
  have d2 : decide ((L.length : Int) = (L'.length : Int)) = false := decide_eq_false hle;replace hQ : Hid (¬ Q) := fun h => by
   have := congrArg List.length (hQ.out.1 h);omega
  replace hle : Hid _ := hle;go_enter func139, ntmps139
  go_wp2
  go_ret
  exact ⟨YN.no hQ.out, Below.refl _ _⟩
 have hll : Hid (L'.length = L.length) := by unfold Hid; omega
 rw [hll.out];clear hle;go_enter func139, ntmps139
 go_wp2
 go_loopw [13] (fun i wr => ∃ k : Nat, k ≤ L.length ∧ i = .int .i64 k ∧ Hid (∀ j, j < k → L.getD j Ik.nil = L'.getD j Ik.nil) ∧ Below w.heap.size w wr) (fun i _ => L.length - (intOf i).toNat)
 case atStart => exact ⟨0, Nat.zero_le _, rfl, fun j hj => absurd hj (by omega), Below.refl _ _⟩
 case round =>
  obtain ⟨k, hk, rfl, hF, hb⟩ := hrel;by_cases hlt : k < L.length
  ·
   obtain ⟨b, off, rfl, _⟩ := hv (by omega);obtain ⟨b', off', rfl, _⟩ := hv' (by have := hll.out; omega);obtain ⟨h, hh⟩ : ∃ h, L.getD k Ik.nil = h := ⟨_, rfl⟩;obtain ⟨h', hh'⟩ : ∃ h, L'.getD k Ik.nil = h := ⟨_, rfl⟩;have hc : ∀ Y, Bw wr Y → Bl Y b (off + k * 8) h := fun Y hY => by rw [← hh]; exact DT ((hv.below (AA hb hY) hB).at_ Aa Ik.nil hlt)
   have hc' : ∀ Y, Bw wr Y → Bl Y b' (off' + k * 8) h' := fun Y hY => by rw [← hh']; exact DT ((hv'.below (AA hb hY) hB').at_ Aa Ik.nil (by have := hll.out; omega))
   replace hh : Hid _ := hh;replace hh' : Hid _ := hh';clear hv hv' hB hB';by_cases he : h = h'
   ·
    have heq : ∀ w, (binOp .neq 64 (.agg (ic h)) (.agg #[ji h'.k, ji h'.q, ji h'.r, ji h'.c, ji h'.b, ji h'.p, ji h'.h, .bool h'.up])).run prog w = .ok (.bool false) w := fun w => by subst he; exact HO h w
    replace he : Hid _ := he;go_upto_region 6 with fail
    refine AR (fun Y => Bw wr Y) fun u0 hb0 => ?_
    refine tw 0 16 (.slice (some (ja b off)) L.length cap) ?_;refine tw 1 17 (ji (k : Int)) ?_;refine tw 2 18 (.pointer (some ⟨b, off + k * 8, none⟩)) ?_ (hy := by intro Y hSw; go_simp; try omega);refine tw 3 19 (.agg (ic h)) ?_ (hy := by intro Y hSw; have X := (hc Y hSw).all; go_simp);refine tw 4 20 (.slice (some ⟨b', off', none⟩) L.length cap') ?_;refine tw 5 21 (ji (k : Int)) ?_;refine tw 6 22 (.pointer (some ⟨b', off' + k * 8, none⟩)) ?_ (hy := by intro Y hSw; go_simp; try omega);refine tw 7 23 (.agg #[ji h'.k, ji h'.q, ji h'.r, ji h'.c, ji h'.b, ji h'.p, ji h'.h, .bool h'.up]) ?_ (hy := by intro Y hSw; have X := (hc' Y hSw).all; go_simp);refine tw 8 24 (.bool false) ?_ (hy := by intro w hSw; have hq := heq w; go_simp);refine AM ?_;go_wp2
    go_roundw
    case rel =>
     refine ⟨k + 1, by omega, by go_num, fun j hj => ?_, AA hb hb0⟩;by_cases ej : j = k
     ·
      rw [ej, hh.out, hh'.out]; exact he.out
     exact hF.out j (by omega)
    case measure => simp [intOf]; omega
   have heq : ∀ w, (binOp .neq 64 (.agg (ic h)) (.agg #[ji h'.k, ji h'.q, ji h'.r, ji h'.c, ji h'.b, ji h'.p, ji h'.h, .bool h'.up])).run prog w = .ok (.bool true) w := fun w => HP he w
   replace he : Hid _ := he;go_upto_region 6 with fail
   refine AR (fun Y => Bw wr Y) fun u0 hb0 => ?_
   refine tw 0 16 (.slice (some (ja b off)) L.length cap) ?_;refine tw 1 17 (ji (k : Int)) ?_;refine tw 2 18 (.pointer (some ⟨b, off + k * 8, none⟩)) ?_ (hy := by intro Y hSw; go_simp; try omega);refine tw 3 19 (.agg (ic h)) ?_ (hy := by intro Y hSw; have X := (hc Y hSw).all; go_simp);refine tw 4 20 (.slice (some ⟨b', off', none⟩) L.length cap') ?_;refine tw 5 21 (ji (k : Int)) ?_;refine tw 6 22 (.pointer (some ⟨b', off' + k * 8, none⟩)) ?_ (hy := by intro Y hSw; go_simp; try omega);refine tw 7 23 (.agg #[ji h'.k, ji h'.q, ji h'.r, ji h'.c, ji h'.b, ji h'.p, ji h'.h, .bool h'.up]) ?_ (hy := by intro Y hSw; have X := (hc' Y hSw).all; go_simp);refine tw 8 24 (.bool true) ?_ (hy := by intro w hSw; have hq := heq w; go_simp);refine AM ?_;go_wp2
   go_ret
   refine ⟨YN.no (fun q => ?_), AA hb hb0⟩;have := hQ.out.1 q;exact he.out (hh.out.symm.trans ((congrArg (fun z => z.getD k Ik.nil) this).trans hh'.out))
  obtain rfl : k = L.length := by omega
  go_wp2
  go_ret
  refine ⟨YN.yes (hQ.out.2 ?_), hb⟩;refine List.ext_getElem hll.out.symm fun i h1 h2 => ?_
  have := hF.out i h1;simpa [List.getD, h1, h2] using this
theorem Ku (ad ad' : Option Addr) (cap cap' : Nat) (L L' : List Ou) (w : World) (hv : AH Ad w ad L) (hv' : AH Ad w ad' L') (hl : L.length ≤ 1048576) (hl' : L'.length ≤ 1048576) :
  Calls prog 111 #[.slice ad L.length cap, .slice ad' L'.length cap'] w fun e w' => YN e (L = L') ∧ Bw w w' := by
 suffices H : ∀ Q : Prop, Hid (Q ↔ L = L') → Calls prog 111 #[.slice ad L.length cap, .slice ad' L'.length cap'] w fun e w' => YN e Q ∧ Bw w w' from H _ Iff.rfl
 intro Q hQ;have hB := hv.lt Bt (by omega);have hB' := hv'.lt Bt (by omega);by_cases hle : (L.length : Int) = (L'.length : Int)
 rotate_left
 ·
  have d1 : ((L.length : Int) != (L'.length : Int)) = true := by simp; omega
  have d2 : decide ((L.length : Int) = (L'.length : Int)) = false := decide_eq_false hle;replace hQ : Hid (¬ Q) := fun h => by
   have := congrArg List.length (hQ.out.1 h);omega
  replace hle : Hid _ := hle;go_enter func111, ntmps111
  go_wp2
  go_ret
  exact ⟨YN.no hQ.out, Below.refl _ _⟩
 have hll : Hid (L'.length = L.length) := by unfold Hid; omega
 rw [hll.out];clear hle;go_enter func111, ntmps111
 go_wp2
 go_loopw [13] (fun i wr => ∃ k : Nat, k ≤ L.length ∧ i = .int .i64 k ∧ Hid (∀ j, j < k → L.getD j Ou.nil = L'.getD j Ou.nil) ∧ Below w.heap.size w wr) (fun i _ => L.length - (intOf i).toNat)
 case atStart => exact ⟨0, Nat.zero_le _, rfl, fun j hj => absurd hj (by omega), Below.refl _ _⟩
 case round =>
  obtain ⟨k, hk, rfl, hF, hb⟩ := hrel;by_cases hlt : k < L.length
  ·
   obtain ⟨b, off, rfl, _⟩ := hv (by omega);obtain ⟨b', off', rfl, _⟩ := hv' (by have := hll.out; omega);obtain ⟨h, hh⟩ : ∃ h, L.getD k Ou.nil = h := ⟨_, rfl⟩;obtain ⟨h', hh'⟩ : ∃ h, L'.getD k Ou.nil = h := ⟨_, rfl⟩;have hc : ∀ Y, Bw wr Y → C7 Y b (off + k * 8) h := fun Y hY => by rw [← hh]; exact FN ((hv.below (AA hb hY) hB).at_ Bt Ou.nil hlt)
   have hc' : ∀ Y, Bw wr Y → C7 Y b' (off' + k * 8) h' := fun Y hY => by rw [← hh']; exact FN ((hv'.below (AA hb hY) hB').at_ Bt Ou.nil (by have := hll.out; omega))
   replace hh : Hid _ := hh;replace hh' : Hid _ := hh';clear hv hv' hB hB';by_cases he : h = h'
   ·
    have heq : ∀ w, (binOp .neq 77 (.agg #[ji h.k, ji h.pt, ji h.r, ji h.c, ji h.b, ji h.p, ji h.h, .bool h.on]) (.agg #[ji h'.k, ji h'.pt, ji h'.r, ji h'.c, ji h'.b, ji h'.p, ji h'.h, .bool h'.on])).run prog w = .ok (.bool false) w := fun w => by subst he; exact HM h w
    replace he : Hid _ := he;go_upto_region 6 with fail
    refine AR (fun Y => Bw wr Y) fun u0 hb0 => ?_
    refine tw 0 16 (.slice (some (ja b off)) L.length cap) ?_;refine tw 1 17 (ji (k : Int)) ?_;refine tw 2 18 (.pointer (some ⟨b, off + k * 8, none⟩)) ?_ (hy := by intro Y hSw; go_simp; try omega);refine tw 3 19 (.agg #[ji h.k, ji h.pt, ji h.r, ji h.c, ji h.b, ji h.p, ji h.h, .bool h.on]) ?_ (hy := by intro Y hSw; have X := (hc Y hSw).all; go_simp);refine tw 4 20 (.slice (some ⟨b', off', none⟩) L.length cap') ?_;refine tw 5 21 (ji (k : Int)) ?_;refine tw 6 22 (.pointer (some ⟨b', off' + k * 8, none⟩)) ?_ (hy := by intro Y hSw; go_simp; try omega);refine tw 7 23 (.agg #[ji h'.k, ji h'.pt, ji h'.r, ji h'.c, ji h'.b, ji h'.p, ji h'.h, .bool h'.on]) ?_ (hy := by intro Y hSw; have X := (hc' Y hSw).all; go_simp);refine tw 8 24 (.bool false) ?_ (hy := by intro w hSw; have hq := heq w; go_simp);refine AM ?_;go_wp2
    go_roundw
    case rel =>
     refine ⟨k + 1, by omega, by go_num, fun j hj => ?_, AA hb hb0⟩;by_cases ej : j = k
     ·
      rw [ej, hh.out, hh'.out]; exact he.out
     exact hF.out j (by omega)
    case measure => simp [intOf]; omega
   have heq : ∀ w, (binOp .neq 77 (.agg #[ji h.k, ji h.pt, ji h.r, ji h.c, ji h.b, ji h.p, ji h.h, .bool h.on]) (.agg #[ji h'.k, ji h'.pt, ji h'.r, ji h'.c, ji h'.b, ji h'.p, ji h'.h, .bool h'.on])).run prog w = .ok (.bool true) w := fun w => HN he w
   replace he : Hid _ := he;go_upto_region 6 with fail
   refine AR (fun Y => Bw wr Y) fun u0 hb0 => ?_
   refine tw 0 16 (.slice (some (ja b off)) L.length cap) ?_;refine tw 1 17 (ji (k : Int)) ?_;refine tw 2 18 (.pointer (some ⟨b, off + k * 8, none⟩)) ?_ (hy := by intro Y hSw; go_simp; try omega);refine tw 3 19 (.agg #[ji h.k, ji h.pt, ji h.r, ji h.c, ji h.b, ji h.p, ji h.h, .bool h.on]) ?_ (hy := by intro Y hSw; have X := (hc Y hSw).all; go_simp);refine tw 4 20 (.slice (some ⟨b', off', none⟩) L.length cap') ?_;refine tw 5 21 (ji (k : Int)) ?_;refine tw 6 22 (.pointer (some ⟨b', off' + k * 8, none⟩)) ?_ (hy := by intro Y hSw; go_simp; try omega);refine tw 7 23 (.agg #[ji h'.k, ji h'.pt, ji h'.r, ji h'.c, ji h'.b, ji h'.p, ji h'.h, .bool h'.on]) ?_ (hy := by intro Y hSw; have X := (hc' Y hSw).all; go_simp);refine tw 8 24 (.bool true) ?_ (hy := by intro w hSw; have hq := heq w; go_simp);refine AM ?_;go_wp2
   go_ret
   refine ⟨YN.no (fun q => ?_), AA hb hb0⟩;have := hQ.out.1 q;exact he.out (hh.out.symm.trans ((congrArg (fun z => z.getD k Ou.nil) this).trans hh'.out))
  obtain rfl : k = L.length := by omega
  go_wp2
  go_ret
  refine ⟨YN.yes (hQ.out.2 ?_), hb⟩;refine List.ext_getElem hll.out.symm fun i h1 h2 => ?_
  have := hF.out i h1;simpa [List.getD, h1, h2] using this
theorem HQ (x : Bool) (w : World) : (binOp .neq 4 (.bool x) (.bool x)).run prog w = .ok (.bool false) w := by
 simp [go_sem]
theorem HR {x y : Bool} (h : x ≠ y) (w : World) : (binOp .neq 4 (.bool x) (.bool y)).run prog w = .ok (.bool true) w := by
 simp [go_sem, h]
theorem LW (ad ad' : Option Addr) (cap cap' : Nat) (L L' : List Bool) (w : World) (hv : AH Bj w ad L) (hv' : AH Bj w ad' L') (hl : L.length ≤ 1048576) (hl' : L'.length ≤ 1048576) :
  Calls prog 108 #[.slice ad L.length cap, .slice ad' L'.length cap'] w fun e w' => YN e (L = L') ∧ Bw w w' := by
 suffices H : ∀ Q : Prop, Hid (Q ↔ L = L') → Calls prog 108 #[.slice ad L.length cap, .slice ad' L'.length cap'] w fun e w' => YN e Q ∧ Bw w w' from H _ Iff.rfl
 intro Q hQ;have hB := hv.lt DE (by omega);have hB' := hv'.lt DE (by omega);by_cases hle : (L.length : Int) = (L'.length : Int)
 rotate_left
 ·
  have d1 : ((L.length : Int) != (L'.length : Int)) = true := by simp; omega
  have d2 : decide ((L.length : Int) = (L'.length : Int)) = false := decide_eq_false hle;replace hQ : Hid (¬ Q) := fun h => by
   have := congrArg List.length (hQ.out.1 h);omega
  replace hle : Hid _ := hle;go_enter func108, ntmps108
  go_wp2
  go_ret
  exact ⟨YN.no hQ.out, Below.refl _ _⟩
 have hll : Hid (L'.length = L.length) := by unfold Hid; omega
 rw [hll.out];clear hle;go_enter func108, ntmps108
 go_wp2
 go_loopw [13] (fun i wr => ∃ k : Nat, k ≤ L.length ∧ i = .int .i64 k ∧ Hid (∀ j, j < k → L.getD j false = L'.getD j false) ∧ Below w.heap.size w wr) (fun i _ => L.length - (intOf i).toNat)
 case atStart => exact ⟨0, Nat.zero_le _, rfl, fun j hj => absurd hj (by omega), Below.refl _ _⟩
 case round =>
  obtain ⟨k, hk, rfl, hF, hb⟩ := hrel;by_cases hlt : k < L.length
  ·
   obtain ⟨b, off, rfl, _⟩ := hv (by omega);obtain ⟨b', off', rfl, _⟩ := hv' (by have := hll.out; omega);obtain ⟨h, hh⟩ : ∃ h, L.getD k false = h := ⟨_, rfl⟩;obtain ⟨h', hh'⟩ : ∃ h, L'.getD k false = h := ⟨_, rfl⟩;have hc : ∀ Y, Bw wr Y → Y.cell? ⟨b, off + k, none⟩ = some (.bool h) := fun Y hY => by have h1 := (hv.below (AA hb hY) hB).at_ DE false hlt 0 (.bool (L.getD k false)) rfl; rw [hh] at h1; simpa using h1
   have hc' : ∀ Y, Bw wr Y → Y.cell? ⟨b', off' + k, none⟩ = some (.bool h') := fun Y hY => by have h1 := (hv'.below (AA hb hY) hB').at_ DE false (by have := hll.out; omega) 0 (.bool (L'.getD k false)) rfl; rw [hh'] at h1; simpa using h1
   replace hh : Hid _ := hh;replace hh' : Hid _ := hh';clear hv hv' hB hB';by_cases he : h = h'
   ·
    have heq : ∀ w, (binOp .neq 4 (.bool h) (.bool h')).run prog w = .ok (.bool false) w := fun w => by subst he; exact HQ h w
    replace he : Hid _ := he;go_upto_region 6 with fail
    refine AR (fun Y => Bw wr Y) fun u0 hb0 => ?_
    refine tw 0 16 (.slice (some (ja b off)) L.length cap) ?_;refine tw 1 17 (ji (k : Int)) ?_;refine tw 2 18 (.pointer (some ⟨b, off + k, none⟩)) ?_ (hy := by intro Y hSw; go_simp; try omega);refine tw 3 19 (.bool h) ?_ (hy := by intro Y hSw; have X0 := hc Y hSw; go_simp);refine tw 4 20 (.slice (some ⟨b', off', none⟩) L.length cap') ?_;refine tw 5 21 (ji (k : Int)) ?_;refine tw 6 22 (.pointer (some ⟨b', off' + k, none⟩)) ?_ (hy := by intro Y hSw; go_simp; try omega);refine tw 7 23 (.bool h') ?_ (hy := by intro Y hSw; have X0 := hc' Y hSw; go_simp);refine tw 8 24 (.bool false) ?_ (hy := by intro w hSw; have hq := heq w; go_simp);refine AM ?_;go_wp2
    go_roundw
    case rel =>
     refine ⟨k + 1, by omega, by go_num, fun j hj => ?_, AA hb hb0⟩;by_cases ej : j = k
     ·
      rw [ej, hh.out, hh'.out]; exact he.out
     exact hF.out j (by omega)
    case measure => simp [intOf]; omega
   have heq : ∀ w, (binOp .neq 4 (.bool h) (.bool h')).run prog w = .ok (.bool true) w := fun w => HR he w
   replace he : Hid _ := he;go_upto_region 6 with fail
   refine AR (fun Y => Bw wr Y) fun u0 hb0 => ?_
   refine tw 0 16 (.slice (some (ja b off)) L.length cap) ?_;refine tw 1 17 (ji (k : Int)) ?_;refine tw 2 18 (.pointer (some ⟨b, off + k, none⟩)) ?_ (hy := by intro Y hSw; go_simp; try omega);refine tw 3 19 (.bool h) ?_ (hy := by intro Y hSw; have X0 := hc Y hSw; go_simp);refine tw 4 20 (.slice (some ⟨b', off', none⟩) L.length cap') ?_;refine tw 5 21 (ji (k : Int)) ?_;refine tw 6 22 (.pointer (some ⟨b', off' + k, none⟩)) ?_ (hy := by intro Y hSw; go_simp; try omega);refine tw 7 23 (.bool h') ?_ (hy := by intro Y hSw; have X0 := hc' Y hSw; go_simp);refine tw 8 24 (.bool true) ?_ (hy := by intro w hSw; have hq := heq w; go_simp);refine AM ?_;go_wp2
   go_ret
   refine ⟨YN.no (fun q => ?_), AA hb hb0⟩;have := hQ.out.1 q;exact he.out (hh.out.symm.trans ((congrArg (fun z => z.getD k false) this).trans hh'.out))
  obtain rfl : k = L.length := by omega
  go_wp2
  go_ret
  refine ⟨YN.yes (hQ.out.2 ?_), hb⟩;refine List.ext_getElem hll.out.symm fun i h1 h2 => ?_
  have := hF.out i h1;simpa [List.getD, h1, h2] using this
theorem IZ (x : AG) (w : World) (hl : x.ln.length ≤ 1048576) :
  Calls prog 18 #[.agg (bc x)] w fun e w' => e = .returned (ji (x.ln.length : Int)) ∧ Bw w w' := by
 go_enter func18, ntmps18
 go_wp2
 go_ret
 exact ⟨rfl, Al _⟩
theorem H2 (x : AG) (w : World) (hJ : Ct w x) (hb : AX x.p = true) :
  Calls prog 74 #[.agg (bc x)] w fun e w' => YN e (DG x.p) ∧ Bw w w' := by
 obtain ⟨Q, hQ⟩ : ∃ Q : Prop, Q = (DG x.p) := ⟨_, rfl⟩;rw [← hQ];replace hQ : Hid _ := hQ;obtain ⟨y, hy, B⟩ := AI w (Obj.cells (bc x) 34);have A : AZ y w.heap.size x := by rw [hy]; exact AZ.new w _ x
 have J := hJ.later B;obtain ⟨o0, o1⟩ := E2 hb;obtain ⟨h2, _⟩ := DU hb;obtain ⟨k, hk⟩ : ∃ k : Nat, 1 - x.rg.ow = (k : Int) := ⟨(1 - x.rg.ow).toNat, by omega⟩;have hkl : k < x.two.length := by omega
 have hwr : IntKind.i64.wrap (1 - x.rg.ow) = (k : Int) := by rw [IntKind.wrap_i64]; omega
 obtain ⟨g, off, hat, _⟩ := J.v.t (by omega);obtain ⟨m, hm⟩ : ∃ m, x.two.getD k AF.nil = m := ⟨_, rfl⟩;have M0 : BE y g (off + k * 7) m := by have h1 := J.v.t; rw [hat] at h1; have := CJ (h1.at_ Au AF.nil hkl); rw [hm] at this; exact this
 have gl : g < y.heap.size := J.v.t.lt Au (by omega) _ hat (by omega);have hmo : AT x.p (1 - x.rg.ow) = m.m := by rw [hk, CC]; simp only [Int.toNat_natCast]; rw [hm]
 have hQ2 : Hid (Q ↔ m.m.up = true ∧ 0 < m.m.li ∧ m.m.li = x.rg.pa ∧ m.m.ep = 0) := by unfold Hid; rw [hQ.out]; unfold DG; show ((AT x.p (1 - x.rg.ow)).up = true ∧ 0 < (AT x.p (1 - x.rg.ow)).li ∧ (AT x.p (1 - x.rg.ow)).li = x.rg.pa ∧ (AT x.p (1 - x.rg.ow)).ep = 0) ↔ _; rw [hmo]
 clear hQ hmo hm hk o0 o1 h2 hb J hJ;replace hat : Hid _ := hat;go_enter func74, ntmps74
 go_upto_region 1 with fail
 rw [← hy];clear hy;obtain ⟨a0, a1, a2, a3, a4, a5, a6, a7, a8, a9⟩ := id A;rw [hat.out] at a5;replace M0 := M0.all;go_upto_region 2 with fail
 clear M0 hwr hat;obtain ⟨⟨up, li, ep, lg, sd, ac, al⟩, ad, cap⟩ := m;dsimp only at hQ2 ⊢;obtain ⟨y2, hy2, kq⟩ := AI y (Obj.cells #[.bool up, ji li, ji ep, .slice ad lg.length cap, ji sd, ji ac, ji al] 52);rw [← hy2];have M2 : Ag y2 y.heap.size ⟨up, li, ep, lg, sd, ac, al⟩ (.slice ad lg.length cap) := by rw [hy2]; constructor <;> simp [go_sem]
 have A2 := A.below kq A.lt;have B := AA B kq;clear a0 a1 a2 a3 a4 a5 a6 a7 a8 a9 A hy2 kq gl;replace M2 := M2.all;replace A2 := A2.all;cases up
 ·
  go_wp2
  go_ret
  exact ⟨YN.no (fun q_ => by have q2 := (hQ2.out.1 q_).1; first | cases q2 | exact q2.elim | simp at q2), B⟩
 by_cases h1 : 0 < li
 ·
  have d1 : decide (li > 0) = true := by simpa using h1
  have d1' : decide (0 < li) = true := by simpa using h1
  replace h1 : Hid _ := h1;by_cases h2 : li = x.rg.pa
  ·
   have d2 : (li == x.rg.pa) = true := by simpa using h2
   replace h2 : Hid _ := h2;by_cases h3 : ep = 0
   ·
    have d3 : (ep == 0) = true := by simpa using h3
    replace h3 : Hid _ := h3;go_wp2
    go_ret
    exact ⟨YN.yes (hQ2.out.2 (by have q1 := h1.out; have q2 := h2.out; have q3 := h3.out; simp_all)), B⟩
   have d3 : (ep == 0) = false := by simpa using h3
   replace h3 : Hid (¬ ep = 0) := h3;go_wp2
   go_ret
   exact ⟨YN.no (fun q_ => by have q1 := h3.out; have q2 := (hQ2.out.1 q_).2.2.2; omega), B⟩
  have d2 : (li == x.rg.pa) = false := by simpa using h2
  replace h2 : Hid (¬ li = x.rg.pa) := h2;go_wp2
  go_ret
  exact ⟨YN.no (fun q_ => by have q1 := h2.out; have q2 := (hQ2.out.1 q_).2.2.1; omega), B⟩
 have d1 : decide (li > 0) = false := by simpa using h1
 have d1' : decide (0 < li) = false := by simpa using h1
 replace h1 : Hid (¬ 0 < li) := h1;go_wp2
 go_ret
 exact ⟨YN.no (fun q_ => by have q1 := h1.out; have q2 := (hQ2.out.1 q_).2.1; omega), B⟩
theorem H8 (x : AG) (k : Nat) (hk : k < 2) (w : World) (hJ : Ct w x) (hb : AX x.p = true) :
  Calls prog 113 #[.agg (bc x), ji (k : Int)] w fun e w' => YN e (CU x.ln (x.two.getD k AF.nil).m.lg) ∧ Bw w w' := by
 obtain ⟨Q, hQ⟩ : ∃ Q : Prop, Q = (CU x.ln (x.two.getD k AF.nil).m.lg) := ⟨_, rfl⟩;rw [← hQ];replace hQ : Hid _ := hQ;obtain ⟨y, hy, B⟩ := AI w (Obj.cells (bc x) 34);have A : AZ y w.heap.size x := by rw [hy]; exact AZ.new w _ x
 have J := hJ.later B;obtain ⟨h2, hmi, _, _, hln, _⟩ := DU hb;have hkl : k < x.two.length := by omega
 obtain ⟨g, off, hat, _⟩ := J.v.t (by omega);obtain ⟨m, hm⟩ : ∃ m, x.two.getD k AF.nil = m := ⟨_, rfl⟩;have M0 : BE y g (off + k * 7) m := by have h1 := J.v.t; rw [hat] at h1; have := CJ (h1.at_ Au AF.nil hkl); rw [hm] at this; exact this
 have gl : g < y.heap.size := J.v.t.lt Au (by omega) _ hat (by omega);have hml := Hp (hmi k (by omega));have hvl := J.v.l k hkl;have hcl := J.c k hkl;rw [hm] at hml hvl hcl hQ;clear h2 hmi hb hJ;have hBl := hvl.lt Aa (by omega);have hBn := J.v.i.lt Aa (by omega);replace hat : Hid _ := hat;replace hm : Hid _ := hm;go_enter func113, ntmps113
 go_upto_region 1 with fail
 rw [← hy];clear hy;refine AR (fun Y => Bw y Y) fun u0 hb0 => ?_
 refine tw 0 7 (.pointer (some (ja w.heap.size 5))) ?_;refine tw 1 8 (.slice (some (ja g off)) x.two.length x.cT) ?_ (hy := by intro Y hSw; have X := (A.below hSw A.lt).all; rw [hat.out] at X; go_simp);refine tw 2 9 (ji (k : Int)) ?_;refine tw 3 10 (.pointer (some ⟨g, off + k * 7, none⟩)) ?_ (hy := by intro Y hSw; go_simp; try omega);refine tw 4 11 (.pointer (some ⟨g, off + k * 7 + 3, none⟩)) ?_;refine tw 5 12 (.slice m.ad m.m.lg.length m.cap) ?_ (hy := by intro Y hSw; have X := (M0.belowJ hSw gl).all; go_simp);refine tw 6 13 (.agg (bc x)) ?_ (hy := by intro Y hSw; have X := (A.below hSw A.lt).all; go_simp);refine w1 7 fun Kz hKz => ?_
 go_simp
 go_at_call 18
 refine (IZ x u0 (by omega)).mono ?_;rintro e u1 ⟨rfl, kq⟩;have hb1 := AA hb0 kq;clear kq;refine hKz _ _ ⟨hb1, ?_⟩;clear hKz Kz;refine tw 8 5 (.slice m.ad m.m.lg.length m.cap) ?_;refine tw 9 6 (ji (x.ln.length : Int)) ?_;refine AM ?_;clear hb0 u0 M0 gl hat;have J := J.later hb1;have A := A.below hb1 A.lt;have B := AA B hb1;have hvl := hvl.below hb1 hBl;have hvn := J.v.i;have hBl := hvl.lt Aa (by omega);have hBn := hvn.lt Aa (by omega);clear hb1;by_cases hle : x.ln.length ≤ m.m.lg.length
 ·
  have d1 : decide ((m.m.lg.length : Int) ≥ (x.ln.length : Int)) = true := decide_eq_true (by omega);have d1' : decide ((x.ln.length : Int) ≤ (m.m.lg.length : Int)) = true := decide_eq_true (by omega);have d1'' : decide (x.ln.length ≤ m.m.lg.length) = true := decide_eq_true hle;have hcx : x.ln.length ≤ m.cap := by omega
  have htl : (m.m.lg.take x.ln.length).length = x.ln.length := by rw [List.length_take]; omega
  replace htl : Hid _ := htl;go_upto_region 2 with fail
  refine AR (fun Y => Bw u1 Y) fun u0 hb0 => ?_
  refine tw 0 15 (.slice m.ad m.m.lg.length m.cap) ?_;refine tw 1 16 (ji (m.m.lg.length : Int)) ?_;refine tw 2 17 (ji (x.ln.length : Int)) ?_;refine tw 3 18 (.bool true) ?_;refine tw 4 19 (.bool true) ?_;refine tw 5 20 (.slice m.ad m.m.lg.length m.cap) ?_;refine tw 6 21 (ji (x.ln.length : Int)) ?_;refine tw 7 22 (.slice m.ad x.ln.length m.cap) ?_ (hy := by intro Y hSw; go_simp; try omega);refine tw 8 23 (.pointer (some (ja w.heap.size 8))) ?_;refine tw 9 24 (.slice x.aL x.ln.length x.cL) ?_ (hy := by intro Y hSw; have X := (A.below hSw A.lt).all; go_simp);refine w1 10 fun Kz hKz => ?_
  go_simp
  go_at_call 139
  refine (show Calls _ _ _ _ _ by have h_ := LF m.ad x.aL m.cap x.cL (m.m.lg.take x.ln.length) x.ln u0 ((hvl.below hb0 hBl).take _) (hvn.below hb0 hBn) (by rw [htl.out]; omega) (by omega); rw [htl.out] at h_; exact h_).mono ?_;rintro e u2 ⟨⟨rb, rfl, hrb⟩, kq⟩;have hb1 := AA hb0 kq;clear kq;replace hrb : Hid _ := hrb;refine hKz _ _ ⟨hb1, ?_⟩;clear hKz Kz;refine tw 11 26 (.bool rb) ?_;refine tw 12 4 (.bool rb) ?_;refine AM ?_;have B := AA B hb1;go_wp2
  go_ret
  exact ⟨YN.is (by rw [hQ.out]; exact hrb.out), B⟩
 have d1 : decide ((m.m.lg.length : Int) ≥ (x.ln.length : Int)) = false := decide_eq_false (by omega);have d1' : decide ((x.ln.length : Int) ≤ (m.m.lg.length : Int)) = false := decide_eq_false (by omega);have d1'' : decide (x.ln.length ≤ m.m.lg.length) = false := decide_eq_false hle;replace hle : Hid (¬ x.ln.length ≤ m.m.lg.length) := hle;go_upto_region 2 with fail
 refine AR (fun Y => Bw u1 Y) fun u0 hb0 => ?_
 refine tw 0 15 (.slice m.ad m.m.lg.length m.cap) ?_;refine tw 1 16 (ji (m.m.lg.length : Int)) ?_;refine tw 2 17 (ji (x.ln.length : Int)) ?_;refine tw 3 18 (.bool false) ?_;refine tw 4 19 (.bool false) ?_;refine ts 5 20 ?_;refine ts 6 21 ?_;refine ts 7 22 ?_;refine ts 8 23 ?_;refine ts 9 24 ?_;refine ts 10 25 ?_;refine tw 11 26 (.bool false) ?_;refine tw 12 4 (.bool false) ?_;refine AM ?_;have B := AA B hb0;go_wp2
 go_ret
 exact ⟨YN.no (fun q_ => hle.out (Hv (by rw [← hQ.out]; exact q_))), B⟩
theorem IQ (x : AG) (w : World) (hJ : Ct w x) (hb : AX x.p = true) :
  Calls prog 70 #[.agg (bc x)] w fun e w' => YN e (DN x.p) ∧ Bw w w' := by
 obtain ⟨Q, hQ⟩ : ∃ Q : Prop, Q = (DN x.p) := ⟨_, rfl⟩;rw [← hQ];replace hQ : Hid _ := hQ;obtain ⟨y, hy, B⟩ := AI w (Obj.cells (bc x) 34);have A : AZ y w.heap.size x := by rw [hy]; exact AZ.new w _ x
 have J := hJ.later B;obtain ⟨o0, o1⟩ := E2 hb;obtain ⟨k, hk⟩ : ∃ k : Nat, 1 - x.rg.ow = (k : Int) := ⟨(1 - x.rg.ow).toNat, by omega⟩;have hk2 : k < 2 := by omega
 have hwr : IntKind.i64.wrap (1 - x.rg.ow) = (k : Int) := by rw [IntKind.wrap_i64]; omega
 have hmo : AT x.p (1 - x.rg.ow) = (x.two.getD k AF.nil).m := by rw [hk, CC]; simp only [Int.toNat_natCast]
 have hQ2 : Hid (Q ↔ (DG x.p → CU x.ln (x.two.getD k AF.nil).m.lg)) := by unfold Hid; rw [hQ.out]; unfold DN; show (DG x.p → CU x.ln (AT x.p (1 - x.rg.ow)).lg) ↔ _; rw [hmo]
 clear hQ hmo hk o0 o1 hJ;replace hb : Hid _ := hb;go_enter func70, ntmps70
 go_upto_region 1 with fail
 rw [← hy];clear hy;have a0 := A.all;go_wp2_with fail
 go_at_call 74
 clear a0;refine (H2 x y J hb.out).mono ?_;rintro e u1 ⟨⟨rb, rfl, hrb⟩, kq⟩;have A := A.below kq A.lt;have J := J.later kq;have B := AA B kq;clear kq;replace hrb : Hid _ := hrb;cases rb
 ·
  go_wp2
  go_ret
  exact ⟨YN.yes (hQ2.out.2 (fun p => by have := hrb.out.2 p; first | cases this | exact absurd this id)), B⟩
 have a0 := A.all;go_wp2_with fail
 go_at_call 113
 clear a0;refine (H8 x k hk2 u1 J hb.out).mono ?_;rintro e u2 ⟨⟨rc, rfl, hrc⟩, kq⟩;have B := AA B kq;clear kq;replace hrc : Hid _ := hrc;go_wp2
 go_ret
 exact ⟨YN.is (by rw [hrc.out, hQ2.out]; exact ⟨fun h _ => h, fun h => h (by first | exact hrb.out.1 rfl | exact hrb.out.1 trivial)⟩), B⟩
theorem Jv {A B : List Ik} (h : CU A B) {k : Nat} (hk : k < A.length) : A.getD k Ik.nil = B.getD k Ik.nil := by
 have h1 : B.take A.length = A := h;have h2 : (B.take A.length).getD k Ik.nil = B.getD k Ik.nil := by
  simp only [List.getD_eq_getElem?_getD, List.getElem?_take_of_lt hk]
 rw [← h2, h1]
theorem Ju {A B : List Ik} (hl : A.length ≤ B.length) (h : ∀ j, j < A.length → A.getD j Ik.nil = B.getD j Ik.nil) : CU A B := by
 show B.take A.length = A;apply List.ext_getElem
 ·
  rw [List.length_take]; omega
 intro i h1 h2;have h3 := h i h2;rw [List.getD_eq_getElem?_getD, List.getD_eq_getElem?_getD, List.getElem?_eq_getElem h2, List.getElem?_eq_getElem (by omega)] at h3;rw [List.getElem_take];exact h3.symm
theorem Ib (ad ad' : Option Addr) (cap cap' : Nat) (L L' : List Ik) (w : World) (hv : AH AS w ad L) (hv' : AH AS w ad' L') (hl : L.length ≤ 1048576) (hl' : L'.length ≤ 1048576) :
  Calls prog 76 #[.slice ad L.length cap, .slice ad' L'.length cap'] w fun e w' => YN e (CU L L') ∧ Bw w w' := by
 suffices H : ∀ Q : Prop, Hid (Q ↔ CU L L') → Calls prog 76 #[.slice ad L.length cap, .slice ad' L'.length cap'] w fun e w' => YN e Q ∧ Bw w w' from H _ Iff.rfl
 intro Q hQ;have hB := hv.lt Aa (by omega);have hB' := hv'.lt Aa (by omega);go_enter func76, ntmps76
 go_upto_region 2 with fail
 go_loopw [5] (fun i wr => ∃ k : Nat, k ≤ L.length ∧ k ≤ L'.length ∧ i = .int .i64 (k : Int) ∧ Hid (∀ j, j < k → L.getD j Ik.nil = L'.getD j Ik.nil) ∧ Below w.heap.size w wr) (fun i _ => L.length - (intOf i).toNat)
 case atStart => exact ⟨0, Nat.zero_le _, Nat.zero_le _, rfl, fun j hj => absurd hj (by omega), Below.refl _ _⟩
 case round =>
  obtain ⟨k, hk, hk', rfl, hF, hb⟩ := hrel;by_cases hlt : k < L.length
  ·
   have d1 : decide ((k : Int) < (L.length : Int)) = true := decide_eq_true (by omega);by_cases hlt' : k < L'.length
   ·
    have d2 : decide ((k : Int) < (L'.length : Int)) = true := decide_eq_true (by omega);obtain ⟨b, off, rfl, _⟩ := hv (by omega);obtain ⟨b', off', rfl, _⟩ := hv' (by omega);obtain ⟨h, hh⟩ : ∃ h, L.getD k Ik.nil = h := ⟨_, rfl⟩;obtain ⟨h', hh'⟩ : ∃ h, L'.getD k Ik.nil = h := ⟨_, rfl⟩;have hc : ∀ Y, Bw wr Y → Bl Y b (off + k * 8) h := fun Y hY => by rw [← hh]; exact DT ((hv.below (AA hb hY) hB).at_ Aa Ik.nil hlt)
    have hc' : ∀ Y, Bw wr Y → Bl Y b' (off' + k * 8) h' := fun Y hY => by rw [← hh']; exact DT ((hv'.below (AA hb hY) hB').at_ Aa Ik.nil hlt')
    replace hh : Hid _ := hh;replace hh' : Hid _ := hh';clear hv hv' hB hB';by_cases he : h = h'
    ·
     have heq : ∀ w, (binOp .neq 64 (.agg (ic h)) (.agg #[ji h'.k, ji h'.q, ji h'.r, ji h'.c, ji h'.b, ji h'.p, ji h'.h, .bool h'.up])).run prog w = .ok (.bool false) w := fun w => by subst he; exact HO h w
     replace he : Hid _ := he;go_upto_region 4 with fail
     refine AR (fun Y => Bw wr Y) fun u0 hb0 => ?_
     refine tw 0 18 (.slice (some (ja b off)) L.length cap) ?_;refine tw 1 19 (ji (k : Int)) ?_;refine tw 2 20 (.pointer (some ⟨b, off + k * 8, none⟩)) ?_ (hy := by intro Y hSw; go_simp; try omega);refine tw 3 21 (.agg (ic h)) ?_ (hy := by intro Y hSw; have X := (hc Y hSw).all; go_simp);refine tw 4 22 (.slice (some ⟨b', off', none⟩) L'.length cap') ?_;refine tw 5 23 (ji (k : Int)) ?_;refine tw 6 24 (.pointer (some ⟨b', off' + k * 8, none⟩)) ?_ (hy := by intro Y hSw; go_simp; try omega);refine tw 7 25 (.agg #[ji h'.k, ji h'.q, ji h'.r, ji h'.c, ji h'.b, ji h'.p, ji h'.h, .bool h'.up]) ?_ (hy := by intro Y hSw; have X := (hc' Y hSw).all; go_simp);refine tw 8 26 (.bool false) ?_ (hy := by intro w hSw; have hq := heq w; go_simp);refine AM ?_;go_wp2
     go_roundw
     case rel =>
      refine ⟨k + 1, by omega, by omega, by go_num, fun j hj => ?_, AA hb hb0⟩;by_cases ej : j = k
      ·
       rw [ej, hh.out, hh'.out]; exact he.out
      exact hF.out j (by omega)
     case measure => simp [intOf]; omega
    have heq : ∀ w, (binOp .neq 64 (.agg (ic h)) (.agg #[ji h'.k, ji h'.q, ji h'.r, ji h'.c, ji h'.b, ji h'.p, ji h'.h, .bool h'.up])).run prog w = .ok (.bool true) w := fun w => HP he w
    replace he : Hid _ := he;go_upto_region 4 with fail
    refine AR (fun Y => Bw wr Y) fun u0 hb0 => ?_
    refine tw 0 18 (.slice (some (ja b off)) L.length cap) ?_;refine tw 1 19 (ji (k : Int)) ?_;refine tw 2 20 (.pointer (some ⟨b, off + k * 8, none⟩)) ?_ (hy := by intro Y hSw; go_simp; try omega);refine tw 3 21 (.agg (ic h)) ?_ (hy := by intro Y hSw; have X := (hc Y hSw).all; go_simp);refine tw 4 22 (.slice (some ⟨b', off', none⟩) L'.length cap') ?_;refine tw 5 23 (ji (k : Int)) ?_;refine tw 6 24 (.pointer (some ⟨b', off' + k * 8, none⟩)) ?_ (hy := by intro Y hSw; go_simp; try omega);refine tw 7 25 (.agg #[ji h'.k, ji h'.q, ji h'.r, ji h'.c, ji h'.b, ji h'.p, ji h'.h, .bool h'.up]) ?_ (hy := by intro Y hSw; have X := (hc' Y hSw).all; go_simp);refine tw 8 26 (.bool true) ?_ (hy := by intro w hSw; have hq := heq w; go_simp);refine AM ?_;go_wp2
    go_ret
    refine ⟨YN.no (fun q => ?_), AA hb hb0⟩;have h1 := Jv (hQ.out.1 q) hlt;exact he.out (hh.out.symm.trans (h1.trans hh'.out))
   have d2 : decide ((k : Int) < (L'.length : Int)) = false := decide_eq_false (by omega);have d3 : decide ((L.length : Int) ≤ (L'.length : Int)) = false := decide_eq_false (by omega);have d3' : decide (L.length ≤ L'.length) = false := decide_eq_false (by omega);have hn : ¬ L.length ≤ L'.length := by omega
   replace hn : Hid (¬ L.length ≤ L'.length) := hn;go_wp2
   go_ret
   exact ⟨YN.no (fun q => hn.out (Hv (hQ.out.1 q))), hb⟩
  obtain rfl : k = L.length := by omega
  have d1 : decide ((L.length : Int) < (L.length : Int)) = false := decide_eq_false (by omega);have d3 : decide ((L.length : Int) ≤ (L'.length : Int)) = true := decide_eq_true (by omega);have d3' : decide (L.length ≤ L'.length) = true := decide_eq_true hk';go_wp2
  go_ret
  exact ⟨YN.yes (hQ.out.2 (Ju hk' (fun j hj => hF.out j hj))), hb⟩
open Go.MuLone
theorem J7 (r : Rg) (w : World) :
  Calls prog 72 #[.agg #[ji r.ep, ji r.ow, ji r.pa]] w fun e w' => ∃ q, e = .returned (.pointer (some (ja q 0))) ∧ Cq w' q 0 r ∧ w.heap.size < q ∧ Bw w w' := by
 obtain ⟨y, hy⟩ := AB ((w.alloc (Obj.cells #[ji r.ep, ji r.ow, ji r.pa] 27)).alloc (Obj.cells #[ji 0, .int .i32 0, .int .u32 0, ji r.ow, ji r.pa] 141));have B0 : Bw w y := by rw [hy]; exact ((Below.refl _ _).alloc (Nat.le_refl _) _).alloc (by simp) _
 have A : An y w.heap.size r := by rw [hy]; constructor <;> simp [go_sem]
 have G : Cq y (w.heap.size + 1) 0 ⟨0, r.ow, r.pa⟩ := by rw [hy]; constructor <;> simp [go_sem]
 go_enter func72, ntmps72
 go_upto_region 2 with fail
 rw [← hy];clear hy;refine AR (fun Y => An Y w.heap.size r) fun u0 kd => ?_
 have hs0 : An u0 w.heap.size r := A.below kd A.lt;have G0 := G.below kd G.lt;refine tw 0 10 (.pointer (some ⟨w.heap.size + 1, 0, none⟩)) ?_;refine tw 1 11 (.pointer (some ⟨w.heap.size + 1, 0, none⟩)) ?_;refine tw 2 12 (.pointer (some ⟨w.heap.size + 1, 0, none⟩)) ?_;refine tw 3 13 (.pointer (some (ja w.heap.size 0))) ?_;refine tw 4 14 (ji r.ep) ?_ (hy := by intro Y hSw; have X := hSw.all; go_simp);refine w1 5 fun Kz hKz => ?_
 go_simp
 go_at_call 116
 refine (J5 r.ep _ (w.heap.size + 1) u0 G0.c0 (G0.fr 0)).mono ?_;rintro e u1 ⟨rfl, hu1⟩;have G1 : Cq u1 (w.heap.size + 1) 0 r := by rw [hu1]; exact G0.setEp r.ep
 have hs1 : An u1 w.heap.size r := hs0.keep (by rw [hu1]; exact AE (by show w.heap.size ≠ w.heap.size + 1; omega));have B1 : Bw w u1 := by rw [hu1]; exact (AA B0 kd).setCell (p := ⟨w.heap.size + 1, 0, none⟩) (by show _ ≤ w.heap.size + 1; omega) _
 clear hu1;refine hKz _ _ ⟨hs1, ?_⟩;clear hKz Kz;refine AM ?_;go_wp2
 go_ret
 exact ⟨_, rfl, G1, by omega, B1⟩
theorem BJ.set0 {w : World} {q : Nat} {r : Rg} (h : BJ w q r) (x : Int) : BJ (w.setCell (ja q 0) (ji x)) q ⟨x, r.ow, r.pa⟩ := by
 obtain ⟨⟨h0, h1, h2⟩, hf⟩ := h;exact ⟨⟨Aj h0, (AC (by decide)).trans h1, (AC (by decide)).trans h2⟩, fun i => by rw [World.frozen?_setCell]; exact hf i⟩
theorem BJ.set1 {w : World} {q : Nat} {r : Rg} (h : BJ w q r) (x : Int) : BJ (w.setCell (ja q 1) (ji x)) q ⟨r.ep, x, r.pa⟩ := by
 obtain ⟨⟨h0, h1, h2⟩, hf⟩ := h;exact ⟨⟨(AC (by decide)).trans h0, Aj h1, (AC (by decide)).trans h2⟩, fun i => by rw [World.frozen?_setCell]; exact hf i⟩
theorem BJ.set2 {w : World} {q : Nat} {r : Rg} (h : BJ w q r) (x : Int) : BJ (w.setCell (ja q 2) (ji x)) q ⟨r.ep, r.ow, x⟩ := by
 obtain ⟨⟨h0, h1, h2⟩, hf⟩ := h;exact ⟨⟨(AC (by decide)).trans h0, (AC (by decide)).trans h1, Aj h2⟩, fun i => by rw [World.frozen?_setCell]; exact hf i⟩
end Go.Proofs.YthgcbihhdbpbdaaGreat
namespace Go.Proofs.YthgcbihhdbpbdaaGreat
open Go.ChangeShapes Go.WideShapes Go.ChangeAt Go.RowKit
open Go.ChangeMaps (open_string shut_string)
set_option linter.unusedVariables false
set_option maxRecDepth 100000
set_option maxHeartbeats 32000000
set_option linter.unusedSimpArgs false
open Go.Proofs.Tryz
theorem Lh (id n : Int) (ad : Option Addr) (cap : Nat) (X : List Ik) (w : World) (hv : AH AS w ad X) (hl : X.length ≤ 1048576) :
  Calls prog 109 #[.int .i64 id, .int .i64 n, .slice ad X.length cap] w fun e w' => ∃ a c, e = .returned (.agg #[.int .i64 (Bf id n), .slice a (Ck id n X).length c]) ∧ AD AJ 11 70 w.heap.size w' (.slice a (Ck id n X).length c) (Ck id n X) ∧ Below w.heap.size w w' := by
 have hB := hv.lt Aa (by omega)
 obtain ⟨y, hy, B0⟩ := AI w (Obj.cells #[.int .i64 0, .slice none 0 0] 42)
 have A0 : AP y w.heap.size 0 (.slice none 0 0) := by rw [hy]; exact AP.new w _ _ _
 have S0 := A0.lt
 have hR : Ck id n X = CL (Bf id n) (Ap id n) X := rfl
 have hNl := FG id n
 have hno := fun h => H4 (id := id) (n := n) X h
 obtain ⟨I, hI⟩ : ∃ v, Bf id n = v := ⟨_, rfl⟩
 obtain ⟨N, hN⟩ : ∃ v, Ap id n = v := ⟨_, rfl⟩
 obtain ⟨ok, hok⟩ : ∃ v, Ay id n = v := ⟨_, rfl⟩
 obtain ⟨D, hD⟩ : ∃ v, Ck id n X = v := ⟨_, rfl⟩
 rw [hI, hN, hD] at hR
 rw [hI, hD, hok] at hno
 rw [hN] at hNl
 rw [hI, hD]
 replace hR : Hid _ := hR
 replace hno : Hid _ := hno
 replace hI : Hid _ := hI
 replace hN : Hid _ := hN
 replace hok : Hid _ := hok
 clear hD
 go_enter func109, ntmps109
 go_wp2_with fail
 go_at_call 13
 rw [← hy]
 clear hy
 refine (Gw id n y).mono ?_
 rintro e u1 ⟨a1, c1, rfl, O1, k1⟩
 rw [hN.out] at O1
 rw [hI.out, hN.out, hok.out]
 clear hI hN hok
 have B1 := AA B0 k1
 have A0 := A0.below k1 A0.lt
 have s1 := k1.size
 have lo1 := O1.lt
 clear k1 B0
 obtain ⟨u2, hu2, k2⟩ := AI u1 (Obj.cells #[.int .i64 I, .slice a1 N.length c1] 42)
 have P2 : AP u2 u1.heap.size I (.slice a1 N.length c1) := by rw [hu2]; exact AP.new u1 _ _ _
 have B2 := AA B1 k2
 have A0 := A0.below k2 A0.lt
 have O1 := O1.later k2
 have s2 := P2.lt
 go_upto_region 2 with fail
 rw [← hu2]
 clear hu2 k2 B1
 obtain ⟨p, hp⟩ := AB u1.heap.size
 rw [← hp] at P2 s1 s2 lo1 ⊢
 clear hp
 have lp : w.heap.size < p := by omega
 cases ok
 ·
  obtain ⟨hD0, hI0⟩ := hno.out rfl
  subst hD0
  subst hI0
  have O9 : AD AJ 11 70 w.heap.size ((u2.setCell ⟨w.heap.size, 0, none⟩ (.int .i64 0)).setCell ⟨w.heap.size, 1, none⟩ (.slice none 0 0)) (.slice none 0 0) ([] : List Pt) := AD.nil
  have B9 : Below w.heap.size w ((u2.setCell ⟨w.heap.size, 0, none⟩ (.int .i64 0)).setCell ⟨w.heap.size, 1, none⟩ (.slice none 0 0)) := (B2.setCell (p := ⟨w.heap.size, 0, none⟩) (Nat.le_refl _) _).setCell (p := ⟨w.heap.size, 1, none⟩) (Nat.le_refl _) _
  obtain ⟨⟨z0, z1⟩, zf⟩ := A0
  have g0 := zf 0
  have g1 := zf 1
  clear zf hR hno O1 lo1 P2 hNl
  go_wp2
  refine bodyPost_ret (v := .agg #[.int .i64 0, .slice none 0 0]) (by simp [results, results109, go_sem, *]) rfl ⟨none, 0, rfl, O9, B9⟩
 clear hno
 go_wp2
 go_loopw [22] (fun i wr => ∃ (k : Nat) (a : Option Addr) (c : Nat) (L : List Pt), k ≤ X.length ∧ i = .int .i64 k ∧ CL I N (X.take k) = L ∧ AP wr p I (.slice a L.length c) ∧ AD AJ 11 70 w.heap.size wr (.slice a L.length c) L ∧ (∀ g, (Value.slice a L.length c).ownBlock = some g → g ≠ p ∧ g ≠ w.heap.size) ∧ AP wr w.heap.size 0 (.slice none 0 0) ∧ Below w.heap.size w wr) (fun i _ => X.length - (intOf i).toNat)
 case atStart => exact ⟨0, a1, c1, N, Nat.zero_le _, rfl, rfl, P2, O1.base (by omega), fun g e => by have := lo1 g e; omega, A0, B2⟩
 case round =>
  obtain ⟨k, a, c, L, hk, rfl, hL, P, O, hne, A, B⟩ := hrel
  have hLl : L.length ≤ 4 := by rw [← hL, FS]; exact hNl
  clear A0 P2 O1 B2 lo1
  by_cases hlt : k < X.length
  ·
   have hst := Fp I N X Ik.nil hlt
   rw [hL] at hst
   replace hL : Hid _ := hL
   obtain ⟨b, off, rfl, _⟩ := hv (by omega)
   obtain ⟨x, hh⟩ : ∃ x, X.getD k Ik.nil = x := ⟨_, rfl⟩
   rw [hh] at hst
   have hck : Bl wr b (off + k * 8) x := by
    rw [← hh]
    exact DT ((hv.below B hB).at_ Aa Ik.nil hlt)
   have hcB : b < w.heap.size := hB ⟨b, off, none⟩ rfl (by omega)
   replace hst : Hid _ := hst
   clear hh
   have lp2 := P.lt
   have bs := B.size
   have ln := O.lt
   replace hck := hck.all
   obtain ⟨u, hu, ku⟩ := AI wr (Obj.cells #[.int .i64 x.k, .int .i64 x.q, .int .i64 x.r, .int .i64 x.c, .int .i64 x.b, .int .i64 x.p, .int .i64 x.h, .bool x.up] 64)
   have U : A8 u wr.heap.size x := by rw [hu]; exact A8.new wr _ x
   have P := P.below ku P.lt
   have A := A.below ku A.lt
   have O := O.later ku
   have B3 := AA B ku
   have su := ku.size
   go_upto_region 7 with fail
   rw [← hu]
   clear hck hu ku B
   have cc := P
   obtain ⟨⟨p0, p1⟩, pf⟩ := cc
   replace U := U.all
   go_wp2_with fail
   go_at_call 110
   clear U p0 p1 pf
   refine (IB I a c L x u O.view.2 (by omega) O.capn).mono ?_
   rintro e w2 ⟨a2, c2, o2, d2, rfl, O2, _, _, k2⟩
   obtain ⟨M, hM⟩ : ∃ M, Ba I L x = M := ⟨_, rfl⟩
   obtain ⟨OO, hOO⟩ : ∃ M, BT I L x = M := ⟨_, rfl⟩
   rw [hM] at O2 ⊢
   rw [hOO]
   have hst2 : Hid (CL I N (X.take (k + 1)) = M) := by unfold Hid; rw [hst.out]; exact hM
   clear hM hOO hst
   have P := P.below k2 P.lt
   have A := A.below k2 A.lt
   have B3 := AA B3 k2
   have P9 := P.put I (.slice a2 M.length c2)
   have lo2 := O2.lt
   have O9 : AD AJ 11 70 w.heap.size ((w2.setCell ⟨p, 0, none⟩ (.int .i64 I)).setCell ⟨p, 1, none⟩ (.slice a2 M.length c2)) (.slice a2 M.length c2) M := (O2.base (by omega)).keep (fun g e => P.put1 I _ g (by have := lo2 g e; omega))
   have A9 := A.keep (P.put1 I (.slice a2 M.length c2) w.heap.size (by omega))
   have B9 : Below w.heap.size w ((w2.setCell ⟨p, 0, none⟩ (.int .i64 I)).setCell ⟨p, 1, none⟩ (.slice a2 M.length c2)) := (B3.setCell (p := ⟨p, 0, none⟩) (by show _ ≤ p; omega) _).setCell (p := ⟨p, 1, none⟩) (by show _ ≤ p; omega) _
   have hne9 : ∀ g, (Value.slice a2 M.length c2).ownBlock = some g → g ≠ p ∧ g ≠ w.heap.size := fun g e => by have := lo2 g e; omega
   clear O O2 hne ln A k2 B3 lo2
   obtain ⟨⟨p0, p1⟩, pf⟩ := P
   have g0 := pf 0
   have g1 := pf 1
   clear pf
   go_wp2
   go_roundw
   case rel => exact ⟨k + 1, a2, c2, M, by omega, by go_num, hst2.out, P9, O9, hne9, A9, B9⟩
   case measure => simp [intOf]; omega
  ·
   obtain rfl : k = X.length := by omega
   rw [List.take_length] at hL
   obtain rfl : D = L := hR.out.trans hL
   have O9 : AD AJ 11 70 w.heap.size ((wr.setCell ⟨w.heap.size, 0, none⟩ (.int .i64 I)).setCell ⟨w.heap.size, 1, none⟩ (.slice a D.length c)) (.slice a D.length c) D := O.keep (fun g e => A.put1 I _ g (hne g e).2)
   have B9 : Below w.heap.size w ((wr.setCell ⟨w.heap.size, 0, none⟩ (.int .i64 I)).setCell ⟨w.heap.size, 1, none⟩ (.slice a D.length c)) := (B.setCell (p := ⟨w.heap.size, 0, none⟩) (Nat.le_refl _) _).setCell (p := ⟨w.heap.size, 1, none⟩) (Nat.le_refl _) _
   obtain ⟨⟨p0, p1⟩, pf⟩ := P
   obtain ⟨⟨z0, z1⟩, zf⟩ := A
   have g0 := zf 0
   have g1 := zf 1
   clear pf zf hne O B hL hR
   go_wp2
   refine bodyPost_ret (v := .agg #[.int .i64 I, .slice a D.length c]) (by simp [results, results109, go_sem, *]) rfl ⟨a, c, rfl, O9, B9⟩
end Go.Proofs.YthgcbihhdbpbdaaGreat
