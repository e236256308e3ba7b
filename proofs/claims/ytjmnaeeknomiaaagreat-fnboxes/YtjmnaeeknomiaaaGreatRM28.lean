import Derived.Test.YtjmnaeeknomiaaaGreatRKWBxd27
import Derived.Test.YtjmnaeeknomiaaaGreatRM8
namespace Go.Proofs.YtjmnaeeknomiaaaGreat
open Go.ChangeShapes Go.WideShapes Go.ChangeAt Go.RowKit
open Go.ChangeMaps (open_string shut_string)
set_option linter.unusedVariables false
set_option maxRecDepth 100000
set_option maxHeartbeats 32000000
set_option linter.unusedSimpArgs false
open Go.Proofs.Tryz
attribute [local go_sem] ji ja bc
theorem Jl (ad : Option Addr) (len cap : Nat) (f : Nat → Int) (w : World) (h : EM w ad len f) : Calls prog 9 #[.slice ad len cap] w fun e w' => ∃ x : AG, e = .returned (.agg (bc x)) ∧ DJ x ∧ AK w.heap.size w' x ∧ Bw w w' := by
 obtain ⟨x0, hx0, B0⟩ := AI w (Obj.cells #[ji 0, ji 0, ji 0, ji 0, ji 0, .slice none 0 0, .slice none 0 0, .slice none 0 0, .slice none 0 0, .slice none 0 0] 34);have Z : Av x0 w.heap.size := by rw [hx0]; exact CU w _
 have h0 := h.later B0 (Nat.le_refl _);have lZ := Z.lt_;go_enter func9, ntmps9
 go_wp2_with fail
 go_at_call 37
 rw [← hx0];clear hx0;refine (Fb ad len cap f x0 h0.view h0.lt h0.small h0.bytes).mono ?_;rintro e y1 ⟨rfl, s1, b1, z1_⟩;have B := AE B0 b1;have hc1 : x0.heap.size < y1.heap.size := s1.cur.lt;have Z := Z.keep (b1.block _ lZ);generalize hcb : x0.heap.size = cb at *
 clear z1_ b1 hcb;go_wp2_with fail
 go_at_call 36
 refine (GS y1 s1 hc1).mono ?_;rintro e y2 ⟨x, rfl, hb, O, s_, g2⟩;clear s1;have Z := Z.keep (g2.block _ Z.lt_ (by simp; omega));have lo : w.heap.size < y1.heap.size := by omega
 have B := B.grown g2 B.size (fun k e => by simp at e; omega);have NZ : Ar w.heap.size x := ⟨fun b e => by have := O.t.lt b e; omega, fun b e => by have := O.n.lt b e; omega, fun b e => by have := O.g.lt b e; omega, fun b e => by have := O.i.lt b e; omega, fun b e => by have := O.s.lt b e; omega, fun j hj b e => by have := (O.l j hj).lt b e; omega⟩;have O9 : AK w.heap.size (BO y2 (w.heap.size) x) x := (O.base (by omega)).keepQ NZ (fun g hg => Am y2 w.heap.size g x hg);have BZ := Bm (q := w.heap.size) x B (Nat.le_refl _);have ZB := Z.box;obtain ⟨⟨r0, r1, r2, r3, r4, r5, r6, r7, r8, r9⟩, rf⟩ := ZB;dsimp only [AG.zero] at r0 r1 r2 r3 r4 r5 r6 r7 r8 r9;have g0 := rf 0;have g1 := rf 1;have g2_ := rf 2;have g3 := rf 3;have g4 := rf 4;have g5 := rf 5;have g6 := rf 6;have g7 := rf 7;have g8 := rf 8;have g9 := rf 9;clear rf s_ g2 Z O NZ;go_wp2
 refine bodyPost_ret (v := AJ x) (by simp [AJ, results, results9, go_sem, *]) rfl ⟨x, rfl, hb, O9, BZ⟩
theorem Jf (ad : Option Addr) (len cap : Nat) (f : Nat → Int) (w : World) (h : EM w ad len f) : Calls prog 10 #[.slice ad len cap] w fun e w' => ∃ x : AG, e = .returned (.agg (bc x)) ∧ DJ x ∧ AK w.heap.size w' x ∧ Bw w w' := by
 obtain ⟨x0, hx0, B0⟩ := AI w (Obj.cells #[ji 0, ji 0, ji 0, ji 0, ji 0, .slice none 0 0, .slice none 0 0, .slice none 0 0, .slice none 0 0, .slice none 0 0] 34);have Z : Av x0 w.heap.size := by rw [hx0]; exact CU w _
 have h0 := h.later B0 (Nat.le_refl _);have lZ := Z.lt_;go_enter func10, ntmps10
 go_wp2_with fail
 go_at_call 37
 rw [← hx0];clear hx0;refine (Fb ad len cap f x0 h0.view h0.lt h0.small h0.bytes).mono ?_;rintro e y1 ⟨rfl, s1, b1, z1_⟩;have B := AE B0 b1;have hc1 : x0.heap.size < y1.heap.size := s1.cur.lt;have Z := Z.keep (b1.block _ lZ);generalize hcb : x0.heap.size = cb at *
 clear z1_ b1 hcb;go_wp2_with fail
 go_at_call 36
 refine (GS y1 s1 hc1).mono ?_;rintro e y2 ⟨x, rfl, hb, O, s_, g2⟩;clear s1;have Z := Z.keep (g2.block _ Z.lt_ (by simp; omega));have lo : w.heap.size < y1.heap.size := by omega
 have B := B.grown g2 B.size (fun k e => by simp at e; omega);have NZ : Ar w.heap.size x := ⟨fun b e => by have := O.t.lt b e; omega, fun b e => by have := O.n.lt b e; omega, fun b e => by have := O.g.lt b e; omega, fun b e => by have := O.i.lt b e; omega, fun b e => by have := O.s.lt b e; omega, fun j hj b e => by have := (O.l j hj).lt b e; omega⟩;have O9 : AK w.heap.size (BO y2 (w.heap.size) x) x := (O.base (by omega)).keepQ NZ (fun g hg => Am y2 w.heap.size g x hg);have BZ := Bm (q := w.heap.size) x B (Nat.le_refl _);have ZB := Z.box;obtain ⟨⟨r0, r1, r2, r3, r4, r5, r6, r7, r8, r9⟩, rf⟩ := ZB;dsimp only [AG.zero] at r0 r1 r2 r3 r4 r5 r6 r7 r8 r9;have g0 := rf 0;have g1 := rf 1;have g2_ := rf 2;have g3 := rf 3;have g4 := rf 4;have g5 := rf 5;have g6 := rf 6;have g7 := rf 7;have g8 := rf 8;have g9 := rf 9;clear rf s_ g2 Z O NZ;go_wp2
 refine bodyPost_ret (v := AJ x) (by simp [AJ, results, results10, go_sem, *]) rfl ⟨x, rfl, hb, O9, BZ⟩
theorem BE.later {w w' : World} {cb : Nat} {ad : Option Addr} {len cap : Nat} {f : Nat → Int} (h : BE w cb ad len cap f) (hb : Below w.heap.size w w') : BE w' cb ad len cap f :=
  ⟨h.cur.carry (hb.block _ h.cur.lt), h.view.carry (fun a e hp => hb.block _ (by obtain ⟨b, off, e2, hcv⟩ := h.view hp; have := World.block_lt_of_cell? w _ (hcv 0 hp); rw [e2] at e; cases e; exact this)), h.ne, h.small, h.bytes⟩
theorem Hd (ad : Option Addr) (len cap : Nat) (f : Nat → Int) (w : World) (h : EM w ad len f) : Calls prog 12 #[.slice ad len cap] w fun e w' => ∃ id n : Int, e = .returned (.tuple #[ji id, ji n]) ∧ Bw w w' := by
 go_enter func12, ntmps12
 go_wp2_with fail
 go_at_call 37
 refine (Fb ad len cap f w h.view h.lt h.small h.bytes).mono ?_
 rintro e y1 ⟨rfl, s1, b1, z1_⟩
 have hc1 : w.heap.size < y1.heap.size := s1.cur.lt
 obtain ⟨cb, hcb⟩ := AC w.heap.size
 rw [← hcb] at s1 hc1 ⊢
 have hle : w.heap.size ≤ cb := by omega
 clear z1_ hcb
 go_wp2_with fail
 go_at_call 38
 refine (BU s1 12 (by decide) (by decide)).mono ?_
 rintro e y2 ⟨q, rfl, q0_, q1_, s2, g2⟩
 have B : Bw w y2 := b1.grown g2 b1.size (fun k e => by simp at e; omega)
 have z2 := g2.size
 clear s1 b1 g2
 obtain ⟨y3, hy3, k3⟩ := AI y2 (Obj.cells #[ji 1, ji 3, ji 4, ji 5, ji 0, ji (-1), ji 9223372036854775807] 3)
 have hg : ∀ i, i < 7 → ∃ y, y3.cell? (ja y2.heap.size i) = some (ji y) ∧ True := by
  rw [hy3]
  intro i hi
  rcases (by omega : i = 0 ∨ i = 1 ∨ i = 2 ∨ i = 3 ∨ i = 4 ∨ i = 5 ∨ i = 6) with rfl | rfl | rfl | rfl | rfl | rfl | rfl
  all_goals exact ⟨_, DR _ _ _ _ rfl, trivial⟩
 have s3 := s2.later k3
 have B := AE B k3
 clear k3 s2
 go_wp2_with fail
 go_at_call 41
 rw [← hy3]
 clear hy3
 refine (D7 s3 (fun _ => True) y2.heap.size 7 7 (by omega) (by decide) (by decide) hg).mono ?_
 rintro e y4 ⟨u, rfl, _, s4, g4⟩
 have B : Bw w y4 := B.grown g4 B.size (fun k e => by simp at e; omega)
 go_wp2
 refine bodyPost_ret (v := .tuple #[ji (q - 1), ji u]) (by simp [results, results12, go_sem]) rfl ⟨q - 1, u, rfl, B⟩
theorem Je (ad : Option Addr) (len cap : Nat) (f : Nat → Int) (w : World) (h : EM w ad len f) : Calls prog 6 #[.slice ad len cap] w fun e w' => ∃ id n : Int, e = .returned (.tuple #[ji id, ji n]) ∧ Bw w w' := by
 go_enter func6, ntmps6
 go_wp2_with fail
 go_at_call 12
 refine (Hd ad len cap f w h).mono ?_
 rintro e y1 ⟨id, n, rfl, B⟩
 go_wp2
 refine bodyPost_ret (v := .tuple #[ji id, ji n]) (by simp [results, results6, go_sem]) rfl ⟨id, n, rfl, B⟩
theorem Jm (ad : Option Addr) (len cap : Nat) (f : Nat → Int) (w : World) (h : EM w ad len f) : Calls prog 11 #[.slice ad len cap] w fun e w' => ∃ (x : AG) (s : Int) (aO : Option Addr) (cO : Nat) (L : List Ou), e = .returned (.tuple #[.agg (bc x), ji s, .slice aO L.length cO]) ∧ DJ x ∧ AK w.heap.size w' x ∧ AB Ag 8 77 w.heap.size w' (.slice aO L.length cO) L ∧ L.length ≤ 8 ∧ Bw w w' := by
 obtain ⟨x0, hx0, B0⟩ := AI w (Obj.cells #[ji 0, ji 0, ji 0, ji 0, ji 0, .slice none 0 0, .slice none 0 0, .slice none 0 0, .slice none 0 0, .slice none 0 0] 34)
 have Z : Av x0 w.heap.size := by rw [hx0]; exact CU w _
 have h0 := h.later B0 (Nat.le_refl _)
 have lZ := Z.lt_
 go_enter func11, ntmps11
 go_wp2_with fail
 go_at_call 37
 rw [← hx0]
 clear hx0
 refine (Fb ad len cap f x0 h0.view h0.lt h0.small h0.bytes).mono ?_
 rintro e y1 ⟨rfl, s1, b1, z1_⟩
 have B := AE B0 b1
 have hc1 : x0.heap.size < y1.heap.size := s1.cur.lt
 have Z := Z.keep (b1.block _ lZ)
 generalize hcb : x0.heap.size = cb at *
 clear z1_ b1 hcb
 go_wp2_with fail
 go_at_call 36
 refine (GS y1 s1 hc1).mono ?_
 rintro e y2 ⟨x, rfl, hb, O, s2, g2⟩
 clear s1
 have Z := Z.keep (g2.block _ Z.lt_ (by simp; omega))
 have lo : w.heap.size < y1.heap.size := by omega
 have B : Bw w y2 := B.grown g2 B.size (fun k e => by simp at e; omega)
 have z2 := g2.size
 obtain ⟨y3, hy3, k3⟩ := AI y2 (Obj.cells (bc x) 34)
 have A : AS y3 y2.heap.size x := by rw [hy3]; exact AS.new y2 _ _
 have O := O.later k3
 have s3 := s2.later k3
 have Z := Z.keep (k3.block _ Z.lt_)
 have B := AE B k3
 have z3 := k3.size
 have zA := A.lt
 have og : Ar w.heap.size x := ⟨fun b e => by have := O.t.lt b e; omega, fun b e => by have := O.n.lt b e; omega, fun b e => by have := O.g.lt b e; omega, fun b e => by have := O.i.lt b e; omega, fun b e => by have := O.s.lt b e; omega, fun j hj b e => by have := (O.l j hj).lt b e; omega⟩
 obtain ⟨qA, hqA⟩ := AC y2.heap.size
 clear s2 g2 k3
 go_wp2_with fail
 go_at_call 38
 rw [← hy3]
 rw [← hqA] at A ⊢
 clear hy3
 replace hqA : y2.heap.size ≤ qA := Nat.le_of_eq hqA.symm
 refine (BU s3 4 (by decide) (by decide)).mono ?_
 rintro e y4 ⟨p, rfl, p0_, p1_, s4, g4⟩
 have hne : qA ≠ cb := by omega
 have z4 := g4.size
 have A := A.keep (g4.block _ A.lt (by simp; omega))
 have O := O.keep (fun g h1 h2 => g4.block g h2 (by simp; omega))
 have Z := Z.keep (g4.block _ Z.lt_ (by simp; omega))
 have B : Bw w y4 := B.grown g4 B.size (fun k e => by simp at e; omega)
 clear s3 g4
 go_wp2_with fail
 go_at_call 40
 refine (Jg y4 s4 (by omega)).mono ?_
 rintro e y5 ⟨id, a, c, L, rfl, hL, o5, s5, g5⟩
 have z5 := g5.size
 have A := A.keep (g5.block _ A.lt (by simp; omega))
 have O := O.keep (fun g h1 h2 => g5.block g h2 (by simp; omega))
 have Z := Z.keep (g5.block _ Z.lt_ (by simp; omega))
 have B : Bw w y5 := B.grown g5 B.size (fun k e => by simp at e; omega)
 clear s4 g5 s5
 go_wp2_with fail
 go_at_call 39
 refine (EU id a c L ⟨2, 0, 0, 0, 0, 0, 0, false⟩ y5 o5.view.2 (by omega) o5.capn).mono ?_
 rintro e y6 ⟨ad', cap', ao, co, rfl, _, oO, _, k6⟩
 have hO := Gu id L ⟨2, 0, 0, 0, 0, 0, 0, false⟩
 generalize Cb id L ⟨2, 0, 0, 0, 0, 0, 0, false⟩ = LO at oO hO ⊢
 generalize CR id L ⟨2, 0, 0, 0, 0, 0, 0, false⟩ = LL
 have z6 := k6.size
 have A := A.below k6 A.lt
 have O := O.later k6
 have Z := Z.keep (k6.block _ Z.lt_)
 have B := AE B k6
 clear o5 hL k6
 obtain ⟨y7, hy7, k7⟩ := AI y6 (Obj.cells #[ji id, .slice ad' LL.length cap'] 42)
 have z7 := k7.size
 have A := A.below k7 A.lt
 have O := (O.later k7).base (b2 := w.heap.size) (by omega)
 have oO := (oO.later k7).base (base' := w.heap.size + 1) (by omega)
 have Z := Z.keep (k7.block _ Z.lt_)
 have B := AE B k7
 clear k7
 go_upto_region 5 with fail
 rw [← hy7]
 clear hy7
 have O9 : AK w.heap.size (BO y7 w.heap.size x) x := O.keepQ og (fun g hg => Am y7 w.heap.size g x hg)
 have OO : AB Ag 8 77 w.heap.size (BO y7 w.heap.size x) (.slice ao LO.length co) LO := (oO.base (by omega)).keep (fun g e => Am y7 w.heap.size g x (by have := oO.lt g e; omega))
 have BZ := Bm (q := w.heap.size) x B (Nat.le_refl _)
 have ZB := Z.box
 obtain ⟨⟨r0, r1, r2, r3, r4, r5, r6, r7, r8, r9⟩, rf⟩ := ZB
 dsimp only [AG.zero] at r0 r1 r2 r3 r4 r5 r6 r7 r8 r9
 have g0 := rf 0
 have g1 := rf 1
 have g2_ := rf 2
 have g3 := rf 3
 have g4 := rf 4
 have g5 := rf 5
 have g6 := rf 6
 have g7 := rf 7
 have g8 := rf 8
 have g9 := rf 9
 have ca := A.all
 clear rf Z O og oO A
 go_wp2
 refine bodyPost_ret (v := .tuple #[AJ x, ji (p - 1), .slice ao LO.length co]) (by simp [AJ, results, results11, go_sem, *]) rfl ⟨x, p - 1, ao, co, LO, rfl, hb, O9, OO, hO, BZ⟩
end Go.Proofs.YtjmnaeeknomiaaaGreat
