import Derived.Test.YtjmnaeeknomiaaaGreatDoorRKWBxd27
namespace Go.Proofs.YtjmnaeeknomiaaaGreatDoor
open Go.ChangeShapes Go.WideShapes Go.ChangeAt Go.RowKit
open Go.ChangeMaps (open_string shut_string)
set_option linter.unusedVariables false
set_option maxRecDepth 100000
set_option maxHeartbeats 32000000
set_option linter.unusedSimpArgs false
open Go.Proofs.Tryz
attribute [local go_sem] ji ja
theorem Kt (ad : Option Addr) (len cap : Nat) (f : Nat → Int) (w : World) (h : E3 w ad len f) : Calls prog 26 #[.slice ad len cap] w fun e w' => ∃ x : Pt, e = .returned (.agg #[.bool x.up, .bool x.has, ji x.r, ji x.c, ji x.b, ji x.p, ji x.h, ji x.l, ji x.ro, ji x.wa, .bool x.op]) ∧ BJ x ∧ Bw w w' := by
 obtain ⟨x0, hx0, B0⟩ := AM w (Obj.cells #[.bool false, .bool false, ji 0, ji 0, ji 0, ji 0, ji 0, ji 0, ji 0, ji 0, .bool false] 47)
 have Z : AO x0 w.heap.size ⟨false, false, 0, 0, 0, 0, 0, 0, 0, 0, false⟩ := by rw [hx0]; exact AO.new w _ ⟨false, false, 0, 0, 0, 0, 0, 0, 0, 0, false⟩
 have h0 := h.later B0 (Nat.le_refl _)
 have lZ := Z.lt
 go_enter func26, ntmps26
 go_wp2_with fail
 go_at_call 39
 rw [← hx0]
 clear hx0
 refine (GF ad len cap f x0 h0.view h0.lt h0.small h0.bytes).mono ?_
 rintro e y1 ⟨rfl, s1, b1, z1_⟩
 have B := AG B0 b1
 have hc1 : x0.heap.size < y1.heap.size := s1.cur.lt
 have Z := Z.below b1 lZ
 generalize hcb : x0.heap.size = cb at *
 clear z1_ b1 hcb
 go_wp2_with fail
 go_at_call 68
 refine (IN y1 s1 hc1).mono ?_
 rintro e y2 ⟨x, rfl, hN, s_, g2⟩
 clear s1
 have hne : w.heap.size ≠ cb := by omega
 have lo : w.heap.size < y1.heap.size := by omega
 have B := B.grown g2 B.size (fun k e => by simp at e; omega)
 have Z := Z.grown g2 hne
 have BZ := Ja (N := w.heap.size) x B (Nat.le_refl _)
 have ZP := Z.put x
 obtain ⟨e0, e1, e2, e3, e4, e5, e6, e7, e8, e9, e10⟩ := ZP.at_
 obtain ⟨⟨r0, r1, r2, r3, r4, r5, r6, r7, r8, r9, r10⟩, rf⟩ := Z
 clear s_ g2
 go_wp2
 refine bodyPost_ret (v := .agg #[.bool x.up, .bool x.has, ji x.r, ji x.c, ji x.b, ji x.p, ji x.h, ji x.l, ji x.ro, ji x.wa, .bool x.op]) (by simp [results, results26, go_sem, *]) rfl ⟨x, rfl, hN, BZ⟩
theorem Ky (ad : Option Addr) (len cap : Nat) (f : Nat → Int) (w : World) (h : E3 w ad len f) : Calls prog 27 #[.slice ad len cap] w fun e w' => ∃ id a c L, e = .returned (.agg #[ji id, .slice a (List.length L) c]) ∧ L.length ≤ 6 ∧ Fw id L ∧ AA AK 11 47 w.heap.size w' (.slice a L.length c) L ∧ Bw w w' := by
 obtain ⟨x0, hx0, B0⟩ := AM w (Obj.cells #[ji 0, .slice none 0 0] 51)
 have Z : AR x0 w.heap.size 0 (.slice none 0 0) := by rw [hx0]; exact AR.new w _ _ _
 have h0 := h.later B0 (Nat.le_refl _)
 have lZ := Z.lt
 go_enter func27, ntmps27
 go_wp2_with fail
 go_at_call 39
 rw [← hx0]
 clear hx0
 refine (GF ad len cap f x0 h0.view h0.lt h0.small h0.bytes).mono ?_
 rintro e y1 ⟨rfl, s1, b1, z1_⟩
 have B := AG B0 b1
 have hc1 : x0.heap.size < y1.heap.size := s1.cur.lt
 have Z := Z.below b1 lZ
 generalize hcb : x0.heap.size = cb at *
 clear z1_ b1 hcb
 go_wp2_with fail
 go_at_call 69
 refine (Kw y1 s1 hc1).mono ?_
 rintro e y2 ⟨id, a, c, L, rfl, hL, hN, O, s_, g2⟩
 clear s1
 have hne : w.heap.size ≠ cb := by omega
 have lo : w.heap.size < y1.heap.size := by omega
 have B := B.grown g2 B.size (fun k e => by simp at e; omega)
 have Z := Z.grown g2 hne
 have lo2 : ∀ g_, (Value.slice a L.length c).ownBlock = some g_ → g_ ≠ w.heap.size := fun g_ e => by have := (O.lt g_ e).1; omega
 have O9 := ((O.other (q := w.heap.size) (i := 0) (u := ji id) (by omega)).other (q := w.heap.size) (i := 1) (u := .slice a L.length c) (by omega)).base (base' := w.heap.size) (by omega)
 have BZ := (B.setCell (p := (ja w.heap.size 0)) (Nat.le_refl _) (ji id)).setCell (p := (ja w.heap.size 1)) (Nat.le_refl _) (.slice a L.length c)
 have ZP := Z.put id (.slice a L.length c)
 obtain ⟨⟨p0, p1⟩, _⟩ := ZP
 obtain ⟨⟨r0, r1⟩, rf⟩ := Z
 clear s_ g2 O
 go_wp2
 refine bodyPost_ret (v := .agg #[ji id, .slice a L.length c]) (by simp [results, results27, go_sem, *]) rfl ⟨id, a, c, L, rfl, by omega, hN, O9, BZ⟩
theorem Ku (ad : Option Addr) (len cap : Nat) (f : Nat → Int) (w : World) (h : E3 w ad len f) : Calls prog 28 #[.slice ad len cap] w fun e w' => ∃ (m : Mi) (a : Option Addr) (c : Nat), e = .returned (.agg (mc m a c)) ∧ (m.lg.length ≤ 61 ∧ Cs m) ∧ AA AW 8 27 w.heap.size w' (.slice a m.lg.length c) m.lg ∧ Bw w w' := by
 obtain ⟨x0, hx0, B0⟩ := AM w (Obj.cells #[.bool false, ji 0, ji 0, .slice none 0 0, ji 0, ji 0, ji 0] 54)
 have Z : AQ x0 w.heap.size ⟨false, 0, 0, [], 0, 0, 0⟩ (.slice none 0 0) := by rw [hx0]; exact AQ.new w _ ⟨false, 0, 0, [], 0, 0, 0⟩ _
 have h0 := h.later B0 (Nat.le_refl _)
 have lZ := Z.lt
 go_enter func28, ntmps28
 go_wp2_with fail
 go_at_call 39
 rw [← hx0]
 clear hx0
 refine (GF ad len cap f x0 h0.view h0.lt h0.small h0.bytes).mono ?_
 rintro e y1 ⟨rfl, s1, b1, z1_⟩
 have B := AG B0 b1
 have hc1 : x0.heap.size < y1.heap.size := s1.cur.lt
 have Z := Z.below b1 lZ
 generalize hcb : x0.heap.size = cb at *
 clear z1_ b1 hcb
 go_wp2_with fail
 go_at_call 70
 refine (IM HP y1 s1 hc1).mono ?_
 rintro e y2 ⟨m, a, c, rfl, hN, O, s_, g2⟩
 clear s1
 have hne : w.heap.size ≠ cb := by omega
 have lo : w.heap.size < y1.heap.size := by omega
 have B := B.grown g2 B.size (fun k e => by simp at e; omega)
 have Z := Z.keep (g2.block _ (by omega) (by simp; omega))
 have lo2 : ∀ g_, (Value.slice a m.lg.length c).ownBlock = some g_ → g_ ≠ w.heap.size := fun g_ e => by have := (O.lt g_ e).1; omega
 have O9 : AA AW 8 27 w.heap.size (((((((y2.setCell (ja w.heap.size 0) (.bool m.up)).setCell (ja w.heap.size 1) (ji m.li)).setCell (ja w.heap.size 2) (ji m.ep)).setCell (ja w.heap.size 3) (.slice a m.lg.length c)).setCell (ja w.heap.size 4) (ji m.sd)).setCell (ja w.heap.size 5) (ji m.ac)).setCell (ja w.heap.size 6) (ji m.al)) (.slice a m.lg.length c) m.lg := (O.base (by omega)).keep (fun g_ e => Dd y2 w.heap.size g_ m _ (lo2 g_ e))
 have BZ := EM (q := w.heap.size) m (.slice a m.lg.length c) B (Nat.le_refl _)
 have ZP := Z.put m (.slice a m.lg.length c)
 obtain ⟨e0, e1, e2, e3, e4, e5, e6, ef⟩ := ZP
 obtain ⟨r0, r1, r2, r3, r4, r5, r6, rf⟩ := Z
 clear s_ g2 O ef
 go_wp2
 refine bodyPost_ret (v := .agg (mc m a c)) (by simp [results, results28, go_sem, *]) rfl ⟨m, a, c, rfl, hN, O9, BZ⟩
attribute [local go_sem] bc
theorem Kq (ad : Option Addr) (len cap : Nat) (f : Nat → Int) (w : World) (h : E3 w ad len f) : Calls prog 29 #[.slice ad len cap] w fun e w' => ∃ x : AF, e = .returned (.agg (bc x)) ∧ Dy x ∧ AL w.heap.size w' x ∧ Bw w w' := by
 obtain ⟨x0, hx0, B0⟩ := AM w (Obj.cells #[ji 0, ji 0, ji 0, ji 0, ji 0, .slice none 0 0, .slice none 0 0, .slice none 0 0, .slice none 0 0, .slice none 0 0] 63);have Z : Aj x0 w.heap.size := by rw [hx0]; exact Cl w _
 have h0 := h.later B0 (Nat.le_refl _);have lZ := Z.lt_;go_enter func29, ntmps29
 go_wp2_with fail
 go_at_call 39
 rw [← hx0];clear hx0;refine (GF ad len cap f x0 h0.view h0.lt h0.small h0.bytes).mono ?_;rintro e y1 ⟨rfl, s1, b1, z1_⟩;have B := AG B0 b1;have hc1 : x0.heap.size < y1.heap.size := s1.cur.lt;have Z := Z.keep (b1.block _ lZ);generalize hcb : x0.heap.size = cb at *
 clear z1_ b1 hcb;go_wp2_with fail
 go_at_call 71
 refine (K7 y1 s1 hc1).mono ?_;rintro e y2 ⟨x, rfl, hb, O, s_, g2⟩;clear s1;have Z := Z.keep (g2.block _ Z.lt_ (by simp; omega));have lo : w.heap.size < y1.heap.size := by omega
 have B := B.grown g2 B.size (fun k e => by simp at e; omega);have NZ : Ai w.heap.size x := ⟨fun b e => by have := O.t.lt b e; omega, fun b e => by have := O.n.lt b e; omega, fun b e => by have := O.g.lt b e; omega, fun b e => by have := O.i.lt b e; omega, fun b e => by have := O.s.lt b e; omega, fun j hj b e => by have := (O.l j hj).lt b e; omega⟩;have O9 : AL w.heap.size (BT y2 (w.heap.size) x) x := (O.base (by omega)).keepQ NZ (fun g hg => Ak y2 w.heap.size g x hg);have BZ := CO (q := w.heap.size) x B (Nat.le_refl _);have ZB := Z.box;obtain ⟨⟨r0, r1, r2, r3, r4, r5, r6, r7, r8, r9⟩, rf⟩ := ZB;dsimp only [AF.zero] at r0 r1 r2 r3 r4 r5 r6 r7 r8 r9;have g0 := rf 0;have g1 := rf 1;have g2_ := rf 2;have g3 := rf 3;have g4 := rf 4;have g5 := rf 5;have g6 := rf 6;have g7 := rf 7;have g8 := rf 8;have g9 := rf 9;clear rf s_ g2 Z O NZ;go_wp2
 refine bodyPost_ret (v := AJ x) (by simp [AJ, results, results29, go_sem, *]) rfl ⟨x, rfl, hb, O9, BZ⟩
end Go.Proofs.YtjmnaeeknomiaaaGreatDoor
