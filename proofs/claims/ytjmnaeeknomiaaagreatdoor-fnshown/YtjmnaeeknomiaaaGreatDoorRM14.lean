import Derived.Test.YtjmnaeeknomiaaaGreatDoorRKWPort4s
import Derived.Test.YtjmnaeeknomiaaaGreatDoorRKWPort6s
import Derived.Test.YtjmnaeeknomiaaaGreatDoorRM9
namespace Go.Proofs.YtjmnaeeknomiaaaGreatDoor
open Go.ChangeShapes Go.WideShapes Go.ChangeAt Go.RowKit
open Go.ChangeMaps (open_string shut_string)
set_option linter.unusedVariables false
set_option maxRecDepth 100000
set_option maxHeartbeats 32000000
set_option linter.unusedSimpArgs false
open Go.Proofs.Tryz
attribute [local go_sem] ji ja ic
structure CT (w : World) (q : Nat) (x : Ik) : Prop where
 at_ : Bh w q x
 fr : ∀ i, w.frozen? (ja q i) = false
theorem CT.keep {w w' : World} {q : Nat} {x : Ik} (h : CT w q x) (k : w'.heap[q]? = w.heap[q]?) : CT w' q x := ⟨h.at_.keep k, fun i => (World.frozen?_of_block (a := (ja q i)) k).trans (h.fr i)⟩
theorem CT.grown {w w' : World} {q cb : Nat} {x : Ik} (h : CT w q x) (g : w.grownBy w' (some cb)) (hne : q ≠ cb) : CT w' q x := h.keep (g.block q h.at_.lt (by simpa using hne))
theorem AA.grown {X : Type} {enc : X → List Value} {n : Nat} {T : TypeId} {base cb : Nat} {w w' : World} {v : Value} {L : List X} (h : AA enc n T base w v L) (g : w.grownBy w' (some cb)) (hb : cb < base) : AA enc n T base w' v L :=
 h.keep fun k e => g.block k (h.lt k e).2 (by have := (h.lt k e).1; simp; omega)
theorem DV.later8 {w y y' : World} {cb : Nat} {ad : Option Addr} {len cap : Nat} (h : DV w cb ad len cap y) (k : Bw y y') : DV w cb ad len cap y' :=
 ⟨h.cur.carry (k.block _ h.cur.lt), Hv h.gr ⟨k.os, k.tape, k.output, k.size, fun i hi _ => k.block i hi⟩⟩
def Lc (w : World) (cb : Nat) (ad : Option Addr) (len cap : Nat) (f : Nat → Int) (e : Ending) (w' : World) : Prop := ∃ x : Ik, e = .returned (.agg (ic x)) ∧ At w' cb ad len cap f ∧ w.grownBy w' (some cb)
theorem Gw {cb : Nat} {ad : Option Addr} {len cap : Nat} {f : Nat → Int} (w : World) (hs : At w cb ad len cap f) (hcb : cb < w.heap.size) : Calls prog 45 #[.pointer (some (ja cb 0))] w fun e w' => Lc w cb ad len cap f e w' := by
 obtain ⟨R, hRe⟩ := AC w.heap.size;have hR : w.heap.size ≤ R := by omega
 have hRc : R ≠ cb := by omega
 obtain ⟨x0, hx0⟩ := AC (w.alloc (Obj.cells #[ji 0, ji 0, ji 0, ji 0, ji 0, ji 0, ji 0, .bool false] 27));have D0 : DV w cb ad len cap x0 := by rw [hx0]; exact (DV.start hs).alloc _
 have Q0 : CT x0 R ⟨0, 0, 0, 0, 0, 0, 0, false⟩ := by rw [hx0, hRe]; exact ⟨Bh.new w _ ⟨0, 0, 0, 0, 0, 0, 0, false⟩, fun i => by simp [go_sem]⟩
 go_enter func45, ntmps45
 go_wp2_with fail
 go_at_call 56
 rw [← hx0, ← hRe];clear hx0 hRe;refine (BD (D0.src hs) 4 (by decide) (by decide)).mono ?_;rintro e y1 ⟨q, rfl, q0_, q1_, s1, g1⟩;have D1 := D0.step s1 g1;have Q1 := Q0.grown g1 hRc;clear D0 Q0 s1 g1;go_wp2_with fail
 go_at_call 56
 refine (BD (D1.src hs) 4 (by decide) (by decide)).mono ?_;rintro e y2 ⟨t, rfl, t0_, t1_, s2, g2⟩;have D2 := D1.step s2 g2;have Q2 := Q1.grown g2 hRc;clear D1 Q1 s2 g2;by_cases h0 : t = 0
 ·
  subst h0;have DZ := ((((((((D2.set (N := R) (i := 0) (by omega) hcb (ji 2)).set (N := R) (i := 1) (by omega) hcb (ji 0)).set (N := R) (i := 2) (by omega) hcb (ji 0)).set (N := R) (i := 3) (by omega) hcb (ji 0)).set (N := R) (i := 4) (by omega) hcb (ji 0)).set (N := R) (i := 5) (by omega) hcb (ji 0)).set (N := R) (i := 6) (by omega) hcb (ji 0)).set (N := R) (i := 7) (by omega) hcb (.bool false));obtain ⟨⟨q0, q1, q2, q3, q4, q5, q6, q7⟩, qf⟩ := Q2;go_wp2
  refine bodyPost_ret (v := .agg #[ji 2, ji 0, ji 0, ji 0, ji 0, ji 0, ji 0, .bool false]) (by simp [results, results45, go_sem, *]) rfl ⟨⟨2, 0, 0, 0, 0, 0, 0, false⟩, rfl, DZ.src hs, DZ.gr⟩
 have e0 : (t == 0) = false := by simpa using h0
 by_cases h1 : t = 1
 ·
  subst h1;clear h0 e0;go_wp2_with fail
  go_at_call 52
  refine (FV (D2.src hs) 3 (by decide) (by decide)).mono ?_;rintro e y3 ⟨bo, rfl, s3, g3⟩;have D3 := D2.step s3 g3;have Q3 := Q2.grown g3 hRc;clear D2 Q2 s3 g3;have DZ := ((((((((D3.set (N := R) (i := 0) (by omega) hcb (ji 3)).set (N := R) (i := 1) (by omega) hcb (ji q)).set (N := R) (i := 2) (by omega) hcb (ji 0)).set (N := R) (i := 3) (by omega) hcb (ji 0)).set (N := R) (i := 4) (by omega) hcb (ji 0)).set (N := R) (i := 5) (by omega) hcb (ji 0)).set (N := R) (i := 6) (by omega) hcb (ji 0)).set (N := R) (i := 7) (by omega) hcb (.bool (!bo)));obtain ⟨⟨q0, q1, q2, q3, q4, q5, q6, q7⟩, qf⟩ := Q3;go_wp2
  refine bodyPost_ret (v := .agg #[ji 3, ji q, ji 0, ji 0, ji 0, ji 0, ji 0, .bool (!bo)]) (by simp [results, results45, go_sem, *]) rfl ⟨⟨3, q, 0, 0, 0, 0, 0, (!bo)⟩, rfl, DZ.src hs, DZ.gr⟩
 have e1 : (t == 1) = false := by simpa using h1
 go_wp2_with fail
 go_at_call 80
 refine (GL y2 (D2.src hs) D2.cur.lt).mono ?_;rintro e y3 ⟨r, c, b, p, rfl, _, s3, g3⟩;have D3 := D2.step s3 g3;have Q3 := Q2.grown g3 hRc;clear D2 Q2 s3 g3;go_wp2_with fail
 go_at_call 56
 refine (BD (D3.src hs) 4 (by decide) (by decide)).mono ?_;rintro e y4 ⟨h, rfl, h0_, h1_, s4, g4⟩;have D4 := D3.step s4 g4;have Q4 := Q3.grown g4 hRc;clear D3 Q3 s4 g4;have DZ := ((((((((D4.set (N := R) (i := 0) (by omega) hcb (ji 1)).set (N := R) (i := 1) (by omega) hcb (ji q)).set (N := R) (i := 2) (by omega) hcb (ji r)).set (N := R) (i := 3) (by omega) hcb (ji c)).set (N := R) (i := 4) (by omega) hcb (ji b)).set (N := R) (i := 5) (by omega) hcb (ji p)).set (N := R) (i := 6) (by omega) hcb (ji h)).set (N := R) (i := 7) (by omega) hcb (.bool false));obtain ⟨⟨q0, q1, q2, q3, q4, q5, q6, q7⟩, qf⟩ := Q4;go_wp2
 refine bodyPost_ret (v := .agg #[ji 1, ji q, ji r, ji c, ji b, ji p, ji h, .bool false]) (by simp [results, results45, go_sem, *]) rfl ⟨⟨1, q, r, c, b, p, h, false⟩, rfl, DZ.src hs, DZ.gr⟩
def B8 (x : Ik) : Prop := (-9 ≤ x.q ∧ x.q ≤ 200) ∧ (-9 ≤ x.r ∧ x.r ≤ 200) ∧ (-9 ≤ x.c ∧ x.c ≤ 200) ∧ (-9 ≤ x.b ∧ x.b ≤ 200) ∧ (-9 ≤ x.p ∧ x.p ≤ 200) ∧ (-9 ≤ x.h ∧ x.h ≤ 200)
def Ii (w : World) (cb : Nat) (ad : Option Addr) (len cap : Nat) (f : Nat → Int) (e : Ending) (w' : World) : Prop := ∃ x : Ik, e = .returned (.agg (ic x)) ∧ At w' cb ad len cap f ∧ w.grownBy w' (some cb) ∧ B8 x
theorem Kx {cb : Nat} {ad : Option Addr} {len cap : Nat} {f : Nat → Int} (w : World) (hs : At w cb ad len cap f) (hcb : cb < w.heap.size) : Calls prog 45 #[.pointer (some (ja cb 0))] w fun e w' => Ii w cb ad len cap f e w' := by
 obtain ⟨R, hRe⟩ := AC w.heap.size;have hR : w.heap.size ≤ R := by omega
 have hRc : R ≠ cb := by omega
 obtain ⟨x0, hx0⟩ := AC (w.alloc (Obj.cells #[ji 0, ji 0, ji 0, ji 0, ji 0, ji 0, ji 0, .bool false] 27));have D0 : DV w cb ad len cap x0 := by rw [hx0]; exact (DV.start hs).alloc _
 have Q0 : CT x0 R ⟨0, 0, 0, 0, 0, 0, 0, false⟩ := by rw [hx0, hRe]; exact ⟨Bh.new w _ ⟨0, 0, 0, 0, 0, 0, 0, false⟩, fun i => by simp [go_sem]⟩
 go_enter func45, ntmps45
 go_wp2_with fail
 go_at_call 56
 rw [← hx0, ← hRe];clear hx0 hRe;refine (BD (D0.src hs) 4 (by decide) (by decide)).mono ?_;rintro e y1 ⟨q, rfl, q0_, q1_, s1, g1⟩;have D1 := D0.step s1 g1;have Q1 := Q0.grown g1 hRc;clear D0 Q0 s1 g1;go_wp2_with fail
 go_at_call 56
 refine (BD (D1.src hs) 4 (by decide) (by decide)).mono ?_;rintro e y2 ⟨t, rfl, t0_, t1_, s2, g2⟩;have D2 := D1.step s2 g2;have Q2 := Q1.grown g2 hRc;clear D1 Q1 s2 g2;by_cases h0 : t = 0
 ·
  subst h0;have DZ := ((((((((D2.set (N := R) (i := 0) (by omega) hcb (ji 2)).set (N := R) (i := 1) (by omega) hcb (ji 0)).set (N := R) (i := 2) (by omega) hcb (ji 0)).set (N := R) (i := 3) (by omega) hcb (ji 0)).set (N := R) (i := 4) (by omega) hcb (ji 0)).set (N := R) (i := 5) (by omega) hcb (ji 0)).set (N := R) (i := 6) (by omega) hcb (ji 0)).set (N := R) (i := 7) (by omega) hcb (.bool false));obtain ⟨⟨q0, q1, q2, q3, q4, q5, q6, q7⟩, qf⟩ := Q2;go_wp2
  refine bodyPost_ret (v := .agg #[ji 2, ji 0, ji 0, ji 0, ji 0, ji 0, ji 0, .bool false]) (by simp [results, results45, go_sem, *]) rfl ⟨⟨2, 0, 0, 0, 0, 0, 0, false⟩, rfl, DZ.src hs, DZ.gr, by first | (unfold B8; simp; done) | (unfold B8; simp; omega) | (unfold V4 at hV4; unfold B8; simp only; omega)⟩
 have e0 : (t == 0) = false := by simpa using h0
 by_cases h1 : t = 1
 ·
  subst h1;clear h0 e0;go_wp2_with fail
  go_at_call 52
  refine (FV (D2.src hs) 3 (by decide) (by decide)).mono ?_;rintro e y3 ⟨bo, rfl, s3, g3⟩;have D3 := D2.step s3 g3;have Q3 := Q2.grown g3 hRc;clear D2 Q2 s3 g3;have DZ := ((((((((D3.set (N := R) (i := 0) (by omega) hcb (ji 3)).set (N := R) (i := 1) (by omega) hcb (ji q)).set (N := R) (i := 2) (by omega) hcb (ji 0)).set (N := R) (i := 3) (by omega) hcb (ji 0)).set (N := R) (i := 4) (by omega) hcb (ji 0)).set (N := R) (i := 5) (by omega) hcb (ji 0)).set (N := R) (i := 6) (by omega) hcb (ji 0)).set (N := R) (i := 7) (by omega) hcb (.bool (!bo)));obtain ⟨⟨q0, q1, q2, q3, q4, q5, q6, q7⟩, qf⟩ := Q3;go_wp2
  refine bodyPost_ret (v := .agg #[ji 3, ji q, ji 0, ji 0, ji 0, ji 0, ji 0, .bool (!bo)]) (by simp [results, results45, go_sem, *]) rfl ⟨⟨3, q, 0, 0, 0, 0, 0, (!bo)⟩, rfl, DZ.src hs, DZ.gr, by first | (unfold B8; simp; done) | (unfold B8; simp; omega) | (unfold V4 at hV4; unfold B8; simp only; omega)⟩
 have e1 : (t == 1) = false := by simpa using h1
 go_wp2_with fail
 go_at_call 80
 refine (GL y2 (D2.src hs) D2.cur.lt).mono ?_;rintro e y3 ⟨r, c, b, p, rfl, hV4, s3, g3⟩;have D3 := D2.step s3 g3;have Q3 := Q2.grown g3 hRc;clear D2 Q2 s3 g3;go_wp2_with fail
 go_at_call 56
 refine (BD (D3.src hs) 4 (by decide) (by decide)).mono ?_;rintro e y4 ⟨h, rfl, h0_, h1_, s4, g4⟩;have D4 := D3.step s4 g4;have Q4 := Q3.grown g4 hRc;clear D3 Q3 s4 g4;have DZ := ((((((((D4.set (N := R) (i := 0) (by omega) hcb (ji 1)).set (N := R) (i := 1) (by omega) hcb (ji q)).set (N := R) (i := 2) (by omega) hcb (ji r)).set (N := R) (i := 3) (by omega) hcb (ji c)).set (N := R) (i := 4) (by omega) hcb (ji b)).set (N := R) (i := 5) (by omega) hcb (ji p)).set (N := R) (i := 6) (by omega) hcb (ji h)).set (N := R) (i := 7) (by omega) hcb (.bool false));obtain ⟨⟨q0, q1, q2, q3, q4, q5, q6, q7⟩, qf⟩ := Q4;go_wp2
 refine bodyPost_ret (v := .agg #[ji 1, ji q, ji r, ji c, ji b, ji p, ji h, .bool false]) (by simp [results, results45, go_sem, *]) rfl ⟨⟨1, q, r, c, b, p, h, false⟩, rfl, DZ.src hs, DZ.gr, by first | (unfold B8; simp; done) | (unfold B8; simp; omega) | (unfold V4 at hV4; unfold B8; simp only; omega)⟩
theorem AI.oneJ (w : World) (t : TypeId) (x : Ik) : AI AW (w.alloc (Obj.cells #[ji x.k, ji x.q, ji x.r, ji x.c, ji x.b, ji x.p, ji x.h, .bool x.up] t)) (some (ja w.heap.size 0)) [x] := by
 intro _;refine ⟨w.heap.size, 0, rfl, fun j v hv => ?_⟩;simp only [AT, AW, List.append_nil] at hv;have hj : j < 8 := (List.getElem?_eq_some_iff.1 hv).1;rcases (by omega : j = 0 ∨ j = 1 ∨ j = 2 ∨ j = 3 ∨ j = 4 ∨ j = 5 ∨ j = 6 ∨ j = 7) with rfl | rfl | rfl | rfl | rfl | rfl | rfl | rfl <;> (cases hv; simp [go_sem])
theorem HZ {w y z : World} {cb : Nat} {v : Value} (h : w.grownBy y (some cb)) (g : y.grownBy z v.ownBlock) (ho : ∀ k, v.ownBlock = some k → w.heap.size ≤ k) : w.grownBy z (some cb) :=
 ⟨g.os.trans h.os, g.tape.trans h.tape, g.output.trans h.output, Nat.le_trans h.size g.size, fun j hj hne => (g.block j (Nat.lt_of_lt_of_le hj h.size) (fun e => by have := ho j e.symm; omega)).trans (h.block j hj hne)⟩
end Go.Proofs.YtjmnaeeknomiaaaGreatDoor
