import Derived.Test.YtjmnaeeknomiaaaGreatRM14
import Derived.Test.YtjmnaeeknomiaaaGreatRM20
import Derived.Test.YtjmnaeeknomiaaaGreatRM23
namespace Go.Proofs.YtjmnaeeknomiaaaGreat
open Go.ChangeShapes Go.WideShapes Go.ChangeAt Go.RowKit
open Go.ChangeMaps (open_string shut_string)
set_option linter.unusedVariables false
set_option maxRecDepth 100000
set_option maxHeartbeats 32000000
set_option linter.unusedSimpArgs false
open Go.Proofs.Tryz
attribute [local go_sem] ji ja bc mc
def Kf (w : World) (cb : Nat) (ad : Option Addr) (len cap : Nat) (f : Nat → Int) (e : Ending) (w' : World) : Prop :=
 ∃ x : AG, e = .returned (.agg (bc x)) ∧ BT w' x ∧ x.two.length = 2 ∧ (∀ i, i < 2 → (x.two.getD i AD.nil).m.lg.length ≤ 60 ∧ ((x.two.getD i AD.nil).ad = none → (x.two.getD i AD.nil).cap = 0)) ∧ (∀ a, x.aT = some a → w.heap.size ≤ a.block) ∧ (∀ i a, i < 2 → (x.two.getD i AD.nil).ad = some a → w.heap.size ≤ a.block) ∧ BE w' cb ad len cap f ∧ w.grownBy w' (some cb)
def Fx : Prop := ∀ {cb : Nat} {ad : Option Addr} {len cap : Nat} {f : Nat → Int} (w : World) (_ : BE w cb ad len cap f) (_ : cb < w.heap.size), Calls prog 77 #[.pointer (some (ja cb 0))] w fun e w' => Kf w cb ad len cap f e w'
def Hr (n : Nat) (w : World) (cb : Nat) (ad : Option Addr) (len cap : Nat) (f : Nat → Int) (e : Ending) (w' : World) : Prop :=
 ∃ (m : Mi) (a : Option Addr) (c : Nat), e = .returned (.agg (mc m a c)) ∧ m.lg.length ≤ n ∧ AB AO 8 64 w.heap.size w' (.slice a m.lg.length c) m.lg ∧ BE w' cb ad len cap f ∧ w.grownBy w' (some cb)
theorem Jh (hR : Fx) {cb : Nat} {ad : Option Addr} {len cap : Nat} {f : Nat → Int} (w : World) (hs : BE w cb ad len cap f) (hcb : cb < w.heap.size) : Calls prog 121 #[.pointer (some (ja cb 0))] w fun e w' => Hr 60 w cb ad len cap f e w' := by
 have hfld : ∀ (i_ p_ r0_ r1_ r2_ : Int) (t_ n_ g_ l_ s_ : Value) (w_ : World), (Instr.field 34 (.agg #[ji i_, ji p_, ji r0_, ji r1_, ji r2_, t_, n_, g_, l_, s_]) 3).run prog w_ = .ok t_ w_ := fun _ _ _ _ _ _ _ _ _ _ _ => by kernel_rfl
 obtain ⟨y0, hy0⟩ := AC (w.alloc (Obj.cells #[.bool false, ji 0, ji 0, .slice none 0 0, ji 0, ji 0, ji 0] 52));have D0 : DV w cb ad len cap y0 := by rw [hy0]; exact (DV.start hs).alloc _
 have R0 : AQ y0 w.heap.size ⟨false, 0, 0, [], 0, 0, 0⟩ (.slice none 0 0) := by rw [hy0]; exact AQ.new w _ ⟨false, 0, 0, [], 0, 0, 0⟩ _
 have z0 := R0.lt;go_enter func121, ntmps121
 go_wp2_with fail
 go_at_call 77
 rw [← hy0];clear hy0;refine (hR y0 (D0.src hs) (by omega)).mono ?_;rintro e y1 ⟨x, rfl, V, h2, hm, loT, loL, s1, g1⟩;have D1 := D0.step s1 g1;have R1 := R0.keep (g1.block _ R0.lt (by simp; omega));have z1 := g1.size;clear D0 R0 s1 g1;have b2 := Nat.le_of_eq h2;have b2' := Nat.le_of_eq h2.symm;replace h2 : Hid _ := h2;go_wp2_with fail
 go_at_call 38
 refine (BU (D1.src hs) 2 (by decide) (by decide)).mono ?_;rintro e y2 ⟨v, rfl, v0, v1, s2, g2⟩;have D2 := D1.step s2 g2;have R2 := R1.keep (g2.block _ R1.lt (by simp; omega));have z2 := g2.size;obtain ⟨k, rfl⟩ : ∃ k : Nat, v = (k : Int) := ⟨v.toNat, by omega⟩;have hk : k < x.two.length := by omega
 have hk2 : k < 2 := by omega
 obtain ⟨d, hd⟩ : ∃ d, x.two.getD k AD.nil = d := ⟨_, rfl⟩;obtain ⟨b, off, hat, _⟩ := V.t (by omega);have hbl := loT _ hat;have hlt := V.t.lt Ai (by omega) _ hat (by omega);dsimp only at hbl hlt;have ht2 := V.t.carry (w' := y2) (fun a e _ => g2.block _ (V.t.lt Ai (by omega) a e (by omega)) (by have := loT a e; simp; omega));have hck : A8 y2 b (off + k * 7) d := by
  rw [hat] at ht2;rw [← hd];exact Bo (ht2.at_ Ai AD.nil hk)
 have hvl := (V.l k hk).carry (w' := y2) (fun a e p => g2.block _ ((V.l k hk).lt AT (by omega) a e p) (by have := loL k a hk2 e; simp; omega));have hmk := hm k hk2;rw [hd] at hvl hmk;obtain ⟨hl60, hn⟩ := hmk;have hcT := V.ct;clear D1 R1 s2 g2 ht2 loT loL hm V hd;rw [hat];clear hat;replace hck := hck.all;go_wp2_with fail
 go_at_call 105
 clear hck;refine (EX d.m d.ad d.cap y2 hvl (by omega) hn).mono ?_;rintro e y3 ⟨a3, k3, rfl, O3, k_⟩;have D3 := D2.later8 k_;have R3 := R2.below k_ R2.lt;have z3 := k_.size;clear D2 R2 k_ hvl;have O4 : AB AO 8 64 w.heap.size (((((((y3.setCell (ja w.heap.size 0) (.bool d.m.up)).setCell (ja w.heap.size 1) (ji d.m.li)).setCell (ja w.heap.size 2) (ji d.m.ep)).setCell (ja w.heap.size 3) (.slice a3 d.m.lg.length k3)).setCell (ja w.heap.size 4) (ji d.m.sd)).setCell (ja w.heap.size 5) (ji d.m.ac)).setCell (ja w.heap.size 6) (ji d.m.al)) (.slice a3 d.m.lg.length k3) d.m.lg := (O3.base (by omega)).keep (fun g e => DO y3 w.heap.size g d.m _ (by have := (O3.lt g e).1; omega));have D4 : DV w cb ad len cap (((((((y3.setCell (ja w.heap.size 0) (.bool d.m.up)).setCell (ja w.heap.size 1) (ji d.m.li)).setCell (ja w.heap.size 2) (ji d.m.ep)).setCell (ja w.heap.size 3) (.slice a3 d.m.lg.length k3)).setCell (ja w.heap.size 4) (ji d.m.sd)).setCell (ja w.heap.size 5) (ji d.m.ac)).setCell (ja w.heap.size 6) (ji d.m.al)) := ((((((D3.set (Nat.le_refl _) hcb _).set (Nat.le_refl _) hcb _).set (Nat.le_refl _) hcb _).set (Nat.le_refl _) hcb _).set (Nat.le_refl _) hcb _).set (Nat.le_refl _) hcb _).set (Nat.le_refl _) hcb _;obtain ⟨z0, z1, z2, z3, z4, z5, z6, zf⟩ := R3;have g0 := zf 0;have g1 := zf 1;have g2 := zf 2;have g3 := zf 3;have g4 := zf 4;have g5 := zf 5;have g6 := zf 6;clear zf O3;have sZ := D4.src hs;have gZ := D4.gr;clear D3 D4;go_wp2
 refine bodyPost_ret (v := .agg (mc d.m a3 k3)) (by simp [results, results121, go_sem, *]) rfl ⟨d.m, a3, k3, rfl, hl60, O4, sZ, gZ⟩
attribute [local go_sem] ic
theorem AQ.setUp {w : World} {q : Nat} {m : Mi} {v : Value} (h : AQ w q m v) (z : Bool) : AQ (w.setCell (ja q 0) (.bool z)) q ⟨z, m.li, m.ep, m.lg, m.sd, m.ac, m.al⟩ v :=
 ⟨Aj h.c0, (AA (by decide)).trans h.c1, (AA (by decide)).trans h.c2, (AA (by decide)).trans h.c3, (AA (by decide)).trans h.c4, (AA (by decide)).trans h.c5, (AA (by decide)).trans h.c6, fun i => by rw [World.frozen?_setCell]; exact h.fr i⟩
theorem AQ.setEp {w : World} {q : Nat} {m : Mi} {v : Value} (h : AQ w q m v) (z : Int) : AQ (w.setCell (ja q 2) (ji z)) q ⟨m.up, m.li, z, m.lg, m.sd, m.ac, m.al⟩ v :=
 ⟨(AA (by decide)).trans h.c0, (AA (by decide)).trans h.c1, Aj h.c2, (AA (by decide)).trans h.c3, (AA (by decide)).trans h.c4, (AA (by decide)).trans h.c5, (AA (by decide)).trans h.c6, fun i => by rw [World.frozen?_setCell]; exact h.fr i⟩
theorem AQ.setSd {w : World} {q : Nat} {m : Mi} {v : Value} (h : AQ w q m v) (z : Int) : AQ (w.setCell (ja q 4) (ji z)) q ⟨m.up, m.li, m.ep, m.lg, z, m.ac, m.al⟩ v :=
 ⟨(AA (by decide)).trans h.c0, (AA (by decide)).trans h.c1, (AA (by decide)).trans h.c2, (AA (by decide)).trans h.c3, Aj h.c4, (AA (by decide)).trans h.c5, (AA (by decide)).trans h.c6, fun i => by rw [World.frozen?_setCell]; exact h.fr i⟩
theorem AQ.setAc {w : World} {q : Nat} {m : Mi} {v : Value} (h : AQ w q m v) (z : Int) : AQ (w.setCell (ja q 5) (ji z)) q ⟨m.up, m.li, m.ep, m.lg, m.sd, z, m.al⟩ v :=
 ⟨(AA (by decide)).trans h.c0, (AA (by decide)).trans h.c1, (AA (by decide)).trans h.c2, (AA (by decide)).trans h.c3, (AA (by decide)).trans h.c4, Aj h.c5, (AA (by decide)).trans h.c6, fun i => by rw [World.frozen?_setCell]; exact h.fr i⟩
theorem Ji (hR : Fx) {cb : Nat} {ad : Option Addr} {len cap : Nat} {f : Nat → Int} (w : World) (hs : BE w cb ad len cap f) (hcb : cb < w.heap.size) : Calls prog 78 #[.pointer (some (ja cb 0))] w fun e w' => Hr 61 w cb ad len cap f e w' := by
 obtain ⟨i0, hi0, hz0, hz1, hz2⟩ := info_parts Ed;obtain ⟨y0, hy0⟩ := AC (w.alloc (Obj.cells #[.bool false, ji 0, ji 0, .slice none 0 0, ji 0, ji 0, ji 0] 52));have D0 : DV w cb ad len cap y0 := by rw [hy0]; exact (DV.start hs).alloc _
 have R0 : AQ y0 w.heap.size ⟨false, 0, 0, [], 0, 0, 0⟩ (.slice none 0 0) := by rw [hy0]; exact AQ.new w _ ⟨false, 0, 0, [], 0, 0, 0⟩ _
 have z0 := R0.lt;go_enter func78, ntmps78
 go_wp2_with fail
 go_at_call 121
 rw [← hy0];clear hy0;refine (Jh hR y0 (D0.src hs) (by omega)).mono ?_;rintro e y1 ⟨m, a, c, rfl, hl, O, s1, g1⟩;have D := D0.step s1 g1;have R := R0.keep (g1.block _ R0.lt (by simp; omega));have z1 := g1.size;have lo := O.lt;clear D0 R0 s1 g1;obtain ⟨y2, hy2, k2⟩ := AI y1 (Obj.cells (mc m a c) 52);have N : AQ y2 y1.heap.size m (.slice a m.lg.length c) := by rw [hy2]; exact AQ.new y1 _ _ _
 have D := D.later8 k2;have R := R.below k2 R.lt;have O := O.later k2;have z2 := N.lt;go_upto_region 2 with fail
 rw [← hy2];clear hy2 k2;obtain ⟨Q, hQ⟩ := AC y1.heap.size;rw [← hQ] at N lo z1 z2 ⊢;clear hQ;go_wp2_with fail
 go_at_call 38
 refine (BU (D.src hs) 10 (by decide) (by decide)).mono ?_;rintro e y3 ⟨v, rfl, v0, v1, s_, g3⟩;have z3 := g3.size;have D := D.step s_ g3;have R := R.keep (g3.block _ R.lt (by simp; omega));have N := N.keep (g3.block _ N.lt (by simp; omega));have O := O.keep (fun g_ e => g3.block g_ (O.lt g_ e).2 (by have := lo g_ e; simp; omega));clear s_ g3;by_cases h0 : v = 0
 focus
  subst h0;obtain ⟨mm, hmm⟩ : ∃ q_ : Mi, q_ = ⟨!m.up, m.li, m.ep, m.lg, m.sd, m.ac, m.al⟩ := ⟨_, rfl⟩;obtain ⟨y6, hy6⟩ := AC (y3.setCell (ja Q 0) (.bool (!m.up)));have hl6 : mm.lg.length ≤ 61 := by rw [hmm]; show m.lg.length ≤ 61; omega
  have N6 : AQ y6 Q mm (.slice a mm.lg.length c) := by rw [hy6, hmm]; exact N.setUp (!m.up)
  have kp : ∀ k, k ≠ Q → y6.heap[k]? = y3.heap[k]? := fun k hk => by rw [hy6]; exact AF hk
  have R := R.keep (kp _ (by omega));have O6 : AB AO 8 64 y0.heap.size y6 (.slice a mm.lg.length c) mm.lg := by rw [hmm]; exact O.keep (fun g_ e => kp g_ (by have := lo g_ e; omega))
  have lo6 : ∀ g, (Value.slice a mm.lg.length c).ownBlock = some g → y0.heap.size ≤ g ∧ g < Q := by rw [hmm]; exact lo
  have D : DV w cb ad len cap y6 := by rw [hy6]; exact D.set (by omega) hcb _
  obtain ⟨n0, n1, n2, n3, n4, n5, n6, nf⟩ := N;have fj := nf 0
 rotate_left;focus
  by_cases h1 : v = 1
  focus
   subst h1;go_wp2_with fail
   go_at_call 38
   refine (BU (D.src hs) 9 (by decide) (by decide)).mono ?_;rintro e y4 ⟨u, rfl, u0, u1, s_, g4⟩;have z4 := g4.size;have D := D.step s_ g4;have R := R.keep (g4.block _ R.lt (by simp; omega));have N := N.keep (g4.block _ N.lt (by simp; omega));have O := O.keep (fun g_ e => g4.block g_ (O.lt g_ e).2 (by have := lo g_ e; simp; omega));clear s_ g4;obtain ⟨mm, hmm⟩ : ∃ q_ : Mi, q_ = ⟨m.up, m.li, m.ep, m.lg, u - 1, m.ac, m.al⟩ := ⟨_, rfl⟩;obtain ⟨y6, hy6⟩ := AC (y4.setCell (ja Q 4) (ji (u - 1)));have hl6 : mm.lg.length ≤ 61 := by rw [hmm]; show m.lg.length ≤ 61; omega
   have N6 : AQ y6 Q mm (.slice a mm.lg.length c) := by rw [hy6, hmm]; exact N.setSd (u - 1)
   have kp : ∀ k, k ≠ Q → y6.heap[k]? = y4.heap[k]? := fun k hk => by rw [hy6]; exact AF hk
   have R := R.keep (kp _ (by omega));have O6 : AB AO 8 64 y0.heap.size y6 (.slice a mm.lg.length c) mm.lg := by rw [hmm]; exact O.keep (fun g_ e => kp g_ (by have := lo g_ e; omega))
   have lo6 : ∀ g, (Value.slice a mm.lg.length c).ownBlock = some g → y0.heap.size ≤ g ∧ g < Q := by rw [hmm]; exact lo
   have D : DV w cb ad len cap y6 := by rw [hy6]; exact D.set (by omega) hcb _
   obtain ⟨n0, n1, n2, n3, n4, n5, n6, nf⟩ := N;have fj := nf 4
  rotate_left;focus
   by_cases h2 : v = 2
   focus
    subst h2;go_wp2_with fail
    go_at_call 38
    refine (BU (D.src hs) 9 (by decide) (by decide)).mono ?_;rintro e y4 ⟨u, rfl, u0, u1, s_, g4⟩;have z4 := g4.size;have D := D.step s_ g4;have R := R.keep (g4.block _ R.lt (by simp; omega));have N := N.keep (g4.block _ N.lt (by simp; omega));have O := O.keep (fun g_ e => g4.block g_ (O.lt g_ e).2 (by have := lo g_ e; simp; omega));clear s_ g4;obtain ⟨mm, hmm⟩ : ∃ q_ : Mi, q_ = ⟨m.up, m.li, m.ep, m.lg, m.sd, u - 1, m.al⟩ := ⟨_, rfl⟩;obtain ⟨y6, hy6⟩ := AC (y4.setCell (ja Q 5) (ji (u - 1)));have hl6 : mm.lg.length ≤ 61 := by rw [hmm]; show m.lg.length ≤ 61; omega
    have N6 : AQ y6 Q mm (.slice a mm.lg.length c) := by rw [hy6, hmm]; exact N.setAc (u - 1)
    have kp : ∀ k, k ≠ Q → y6.heap[k]? = y4.heap[k]? := fun k hk => by rw [hy6]; exact AF hk
    have R := R.keep (kp _ (by omega));have O6 : AB AO 8 64 y0.heap.size y6 (.slice a mm.lg.length c) mm.lg := by rw [hmm]; exact O.keep (fun g_ e => kp g_ (by have := lo g_ e; omega))
    have lo6 : ∀ g, (Value.slice a mm.lg.length c).ownBlock = some g → y0.heap.size ≤ g ∧ g < Q := by rw [hmm]; exact lo
    have D : DV w cb ad len cap y6 := by rw [hy6]; exact D.set (by omega) hcb _
    obtain ⟨n0, n1, n2, n3, n4, n5, n6, nf⟩ := N;have fj := nf 5
   rotate_left;focus
    by_cases h3 : v = 3
    ·
     subst h3;go_upto_region 10 with fail
     refine Ey (fun Y => AQ Y Q m (.slice a m.lg.length c)) 7 ?_;intro u0 hu0;change Ct _ _ _ _ _ _ _ _ _ _;have kd : Bw y3 u0 := by rw [hu0]; exact (Below.refl _ _).drew
     clear hu0;have D := D.later8 kd;have R := R.below kd R.lt;have N := N.below kd N.lt;have O := O.later kd;have zd := kd.size;clear kd;refine tl 0 28 (.pointer (some (ja Q 3))) ?_;refine tl 2 30 (.pointer (some (ja cb 0))) ?_;refine tl 1 29 (.slice a m.lg.length c) ?_ (hy := by intro Y hSw; have X3 := hSw.c3; go_simp);refine wl 3 fun Kz hKz => ?_
     go_simp
     go_at_call 80
     refine (GQ u0 (D.src hs) (by omega)).mono ?_;rintro e u1 ⟨xx, rfl, s_, g1, _⟩;have zc := g1.size;have D := D.step s_ g1;have R := R.keep (g1.block _ R.lt (by simp; omega));have N := N.keep (g1.block _ N.lt (by simp; omega));have O := O.keep (fun g_ e => g1.block g_ (O.lt g_ e).2 (by have := lo g_ e; simp; omega));clear s_ g1;refine hKz _ _ ⟨fun _ => N, ?_⟩;clear hKz Kz;refine wl 4 fun Kz hKz => ?_
     go_simp
     obtain ⟨u2, hu2, kq⟩ := AI u1 (Obj.cells (ic xx) 64);have V1 : AH AO u2 (some (ja u1.heap.size 0)) [xx] := by rw [hu2]; exact AH.oneJ u1 _ xx
     have D := D.later8 kq;have R := R.below kq R.lt;have N := N.below kq N.lt;have O := O.later kq;have zq := kq.size;rw [← hu2];clear hu2 kq;refine hKz _ _ ⟨fun _ => N, ?_⟩;clear hKz Kz;refine wl 5 fun Kz hKz => ?_
     refine Bh AT ER 33 _ _ 31 rfl rfl y0.heap.size 64 i0 (.agg #[ji 0, ji 0, ji 0, ji 0, ji 0, ji 0, ji 0, .bool false]) 64 underlying31 hi0 hz0 hz1 hz2 rfl (by decide) (by decide) (.slice a m.lg.length c) m.lg rfl O (some (ja u1.heap.size 0)) 1 [xx] rfl (fun e => by cases e) V1 (by simp; omega) (by omega) ?_;intro vN u3 oN gN hob;obtain ⟨mm, hmm⟩ : ∃ q_ : Mi, q_ = ⟨m.up, m.li, m.ep, m.lg ++ [xx], m.sd, m.ac, m.al⟩ := ⟨_, rfl⟩;have hl6 : mm.lg.length ≤ 61 := by rw [hmm]; show (m.lg ++ [xx]).length ≤ 61; simp; omega
     have oN : AB AO 8 64 y0.heap.size u3 vN mm.lg := by rw [hmm]; exact oN
     replace hmm : Hid _ := hmm;have kb : ∀ k, k < u2.heap.size → (∀ g_, (Value.slice a m.lg.length c).ownBlock = some g_ → k ≠ g_) → u3.heap[k]? = u2.heap[k]? := fun k hk he => gN.block k hk (fun e => he k e.symm rfl)
     have hqn : ∀ g_, vN.ownBlock = some g_ → g_ ≠ Q := fun g_ e => hob.elim (fun h => by rw [h] at e; have := lo g_ e; omega) (fun h => by rw [h] at e; have e2 := Option.some.inj e; omega)
     have R := R.keep (kb _ R.lt (fun g_ e => by have := lo g_ e; omega));have N := N.keep (kb _ N.lt (fun g_ e => by have := lo g_ e; omega));have D : DV w cb ad len cap u3 := ⟨D.cur.carry (kb _ D.cur.lt (fun g_ e => by have := lo g_ e; omega)), HC D.gr gN (fun k e => by have := lo k e; omega)⟩;have zN := gN.size;obtain ⟨aN, cN, rfl⟩ := oN.open_;clear gN kb hob V1 O;simp only [List.set_cons_zero, List.set_cons_succ];refine hKz _ _ ⟨fun _ => N, ?_⟩;clear hKz Kz;refine tl 6 34 (.pointer (some (ja Q 3))) ?_;refine wl 7 fun Kz hKz => ?_
     have c3 := N.c3;have f3 := N.fr 3;go_simp
     clear c3 f3;obtain ⟨y6, hy6⟩ := AC (u3.setCell (ja Q 3) (.slice aN mm.lg.length cN));have N6 : AQ y6 Q mm (.slice aN mm.lg.length cN) := by rw [hy6, hmm.out]; exact (N.log _).lg (m.lg ++ [xx])
     have kp : ∀ k, k ≠ Q → y6.heap[k]? = u3.heap[k]? := fun k hk => by rw [hy6]; exact AF hk
     have R := R.keep (kp _ (by omega));have O := oN.keep (fun g_ e => kp g_ (hqn g_ e));have D : DV w cb ad len cap y6 := by rw [hy6]; exact D.set (by omega) hcb _
     rw [← hy6];clear hy6 kp hmm oN N;refine hKz _ _ ⟨fun e => absurd rfl e, ?_⟩;clear hKz Kz;refine Ec ?_;have N := N6;clear N6;have lo := O.lt;have O9 : AB AO 8 64 w.heap.size (((((((y6.setCell (ja w.heap.size 0) (.bool mm.up)).setCell (ja w.heap.size 1) (ji mm.li)).setCell (ja w.heap.size 2) (ji mm.ep)).setCell (ja w.heap.size 3) (.slice aN mm.lg.length cN)).setCell (ja w.heap.size 4) (ji mm.sd)).setCell (ja w.heap.size 5) (ji mm.ac)).setCell (ja w.heap.size 6) (ji mm.al)) (.slice aN mm.lg.length cN) mm.lg := (O.base (by omega)).keep (fun g_ e => DO y6 w.heap.size g_ mm _ (by have := lo g_ e; omega));have D9 : DV w cb ad len cap (((((((y6.setCell (ja w.heap.size 0) (.bool mm.up)).setCell (ja w.heap.size 1) (ji mm.li)).setCell (ja w.heap.size 2) (ji mm.ep)).setCell (ja w.heap.size 3) (.slice aN mm.lg.length cN)).setCell (ja w.heap.size 4) (ji mm.sd)).setCell (ja w.heap.size 5) (ji mm.ac)).setCell (ja w.heap.size 6) (ji mm.al)) := ((((((D.set (Nat.le_refl _) hcb _).set (Nat.le_refl _) hcb _).set (Nat.le_refl _) hcb _).set (Nat.le_refl _) hcb _).set (Nat.le_refl _) hcb _).set (Nat.le_refl _) hcb _).set (Nat.le_refl _) hcb _;have sZ := D9.src hs;have gZ := D9.gr;obtain ⟨z0, z1, z2, z3, z4, z5, z6, zf⟩ := R;have g0 := zf 0;have g1 := zf 1;have g2 := zf 2;have g3 := zf 3;have g4 := zf 4;have g5 := zf 5;have g6 := zf 6;replace N := N.all;clear zf O D D9;go_wp2
     refine bodyPost_ret (v := .agg (mc mm aN cN)) (by simp [results, results78, go_sem, *]) rfl ⟨mm, aN, cN, rfl, hl6, O9, sZ, gZ⟩
    focus
     by_cases h4 : v = 4
     focus
      subst h4;obtain ⟨y4, hy4, kn⟩ := AI y3 (Obj.cells #[ji (-1), ji 0, ji 1, ji 100001] 3);have hg : ∀ i, i < 4 → ∃ z, y4.cell? (ja y3.heap.size i) = some (ji z) ∧ True := by
        intro i h_;rw [hy4];rcases (by omega : i = 0 ∨ i = 1 ∨ i = 2 ∨ i = 3) with rfl | rfl | rfl | rfl
        ·
         exact ⟨-1, by simp [go_sem], trivial⟩
        ·
         exact ⟨0, by simp [go_sem], trivial⟩
        ·
         exact ⟨1, by simp [go_sem], trivial⟩
        ·
         exact ⟨100001, by simp [go_sem], trivial⟩
      have D := D.later8 kn;have R := R.below kn R.lt;have N := N.below kn N.lt;have O := O.later kn;have hne : y3.heap.size ≠ cb := by omega
      go_wp2_with fail
      go_at_call 41
      rw [← hy4];have z4 := kn.size;clear hy4 kn;generalize y3.heap.size = E at hg hne ⊢
      refine (D7 (D.src hs) (fun _ => True) E 4 4 hne (by decide) (by decide) hg).mono ?_;rintro e y5 ⟨u, rfl, _, s_, g5⟩;have z5 := g5.size;clear hg;have D := D.step s_ g5;have R := R.keep (g5.block _ R.lt (by simp; omega));have N := N.keep (g5.block _ N.lt (by simp; omega));have O := O.keep (fun g_ e => g5.block g_ (O.lt g_ e).2 (by have := lo g_ e; simp; omega));clear s_ g5;obtain ⟨mm, hmm⟩ : ∃ q_ : Mi, q_ = ⟨m.up, m.li, u, m.lg, m.sd, m.ac, m.al⟩ := ⟨_, rfl⟩;obtain ⟨y6, hy6⟩ := AC (y5.setCell (ja Q 2) (ji u));have hl6 : mm.lg.length ≤ 61 := by rw [hmm]; show m.lg.length ≤ 61; omega
      have N6 : AQ y6 Q mm (.slice a mm.lg.length c) := by rw [hy6, hmm]; exact N.setEp u
      have kp : ∀ k, k ≠ Q → y6.heap[k]? = y5.heap[k]? := fun k hk => by rw [hy6]; exact AF hk
      have R := R.keep (kp _ (by omega));have O6 : AB AO 8 64 y0.heap.size y6 (.slice a mm.lg.length c) mm.lg := by rw [hmm]; exact O.keep (fun g_ e => kp g_ (by have := lo g_ e; omega))
      have lo6 : ∀ g, (Value.slice a mm.lg.length c).ownBlock = some g → y0.heap.size ≤ g ∧ g < Q := by rw [hmm]; exact lo
      have D : DV w cb ad len cap y6 := by rw [hy6]; exact D.set (by omega) hcb _
      obtain ⟨n0, n1, n2, n3, n4, n5, n6, nf⟩ := N;have fj := nf 2
     rotate_left
     ·
      have d0 : (v == 0) = false := by rw [beq_eq_false_iff_ne]; exact h0
      have d1 : (v == 1) = false := by rw [beq_eq_false_iff_ne]; exact h1
      have d2 : (v == 2) = false := by rw [beq_eq_false_iff_ne]; exact h2
      have d3 : (v == 3) = false := by rw [beq_eq_false_iff_ne]; exact h3
      have d4 : (v == 4) = false := by rw [beq_eq_false_iff_ne]; exact h4
      clear h0 h1 h2 h3 h4;have O9 : AB AO 8 64 w.heap.size (((((((y3.setCell (ja w.heap.size 0) (.bool m.up)).setCell (ja w.heap.size 1) (ji m.li)).setCell (ja w.heap.size 2) (ji m.ep)).setCell (ja w.heap.size 3) (.slice a m.lg.length c)).setCell (ja w.heap.size 4) (ji m.sd)).setCell (ja w.heap.size 5) (ji m.ac)).setCell (ja w.heap.size 6) (ji m.al)) (.slice a m.lg.length c) m.lg := (O.base (by omega)).keep (fun g_ e => DO y3 w.heap.size g_ m _ (by have := lo g_ e; omega));have D9 : DV w cb ad len cap (((((((y3.setCell (ja w.heap.size 0) (.bool m.up)).setCell (ja w.heap.size 1) (ji m.li)).setCell (ja w.heap.size 2) (ji m.ep)).setCell (ja w.heap.size 3) (.slice a m.lg.length c)).setCell (ja w.heap.size 4) (ji m.sd)).setCell (ja w.heap.size 5) (ji m.ac)).setCell (ja w.heap.size 6) (ji m.al)) := ((((((D.set (Nat.le_refl _) hcb _).set (Nat.le_refl _) hcb _).set (Nat.le_refl _) hcb _).set (Nat.le_refl _) hcb _).set (Nat.le_refl _) hcb _).set (Nat.le_refl _) hcb _).set (Nat.le_refl _) hcb _;have sZ := D9.src hs;have gZ := D9.gr;obtain ⟨z0, z1, z2, z3, z4, z5, z6, zf⟩ := R;have g0 := zf 0;have g1 := zf 1;have g2 := zf 2;have g3 := zf 3;have g4 := zf 4;have g5 := zf 5;have g6 := zf 6;replace N := N.all;clear zf O D D9;go_wp2
      refine bodyPost_ret (v := .agg (mc m a c)) (by simp [results, results78, go_sem, *]) rfl ⟨m, a, c, rfl, (by omega), O9, sZ, gZ⟩
    rotate_left
   rotate_left
  rotate_left 2
 rotate_left 3;all_goals
  clear nf kp hmm;go_upto_region 13 with fail
  rw [← hy6];clear hy6 n0 n1 n2 n3 n4 n5 n6 fj O;have N := N6;have O := O6;have lo := lo6;clear N6 O6 lo6;have O9 : AB AO 8 64 w.heap.size (((((((y6.setCell (ja w.heap.size 0) (.bool mm.up)).setCell (ja w.heap.size 1) (ji mm.li)).setCell (ja w.heap.size 2) (ji mm.ep)).setCell (ja w.heap.size 3) (.slice a mm.lg.length c)).setCell (ja w.heap.size 4) (ji mm.sd)).setCell (ja w.heap.size 5) (ji mm.ac)).setCell (ja w.heap.size 6) (ji mm.al)) (.slice a mm.lg.length c) mm.lg := (O.base (by omega)).keep (fun g_ e => DO y6 w.heap.size g_ mm _ (by have := lo g_ e; omega));have D9 : DV w cb ad len cap (((((((y6.setCell (ja w.heap.size 0) (.bool mm.up)).setCell (ja w.heap.size 1) (ji mm.li)).setCell (ja w.heap.size 2) (ji mm.ep)).setCell (ja w.heap.size 3) (.slice a mm.lg.length c)).setCell (ja w.heap.size 4) (ji mm.sd)).setCell (ja w.heap.size 5) (ji mm.ac)).setCell (ja w.heap.size 6) (ji mm.al)) := ((((((D.set (Nat.le_refl _) hcb _).set (Nat.le_refl _) hcb _).set (Nat.le_refl _) hcb _).set (Nat.le_refl _) hcb _).set (Nat.le_refl _) hcb _).set (Nat.le_refl _) hcb _).set (Nat.le_refl _) hcb _;have sZ := D9.src hs;have gZ := D9.gr;obtain ⟨z0, z1, z2, z3, z4, z5, z6, zf⟩ := R;have g0 := zf 0;have g1 := zf 1;have g2 := zf 2;have g3 := zf 3;have g4 := zf 4;have g5 := zf 5;have g6 := zf 6;replace N := N.all;clear zf O D D9;go_wp2
  refine bodyPost_ret (v := .agg (mc mm a c)) (by simp [results, results78, go_sem, *]) rfl ⟨mm, a, c, rfl, hl6, O9, sZ, gZ⟩
structure DI (w : World) (q : Nat) (d : De) : Prop where
 at_ : Bz w q d
 fr : ∀ i, w.frozen? (ja q i) = false
theorem DI.keep {w w' : World} {q : Nat} {d : De} (h : DI w q d) (k : w'.heap[q]? = w.heap[q]?) : DI w' q d := ⟨h.at_.keep k, fun i => (World.frozen?_of_block (a := (ja q i)) k).trans (h.fr i)⟩
theorem DI.lt {w : World} {q : Nat} {d : De} (h : DI w q d) : q < w.heap.size := h.at_.lt
def J3 (w : World) (cb : Nat) (ad : Option Addr) (len cap : Nat) (f : Nat → Int) (e : Ending) (w' : World) : Prop := ∃ d : De, e = .returned (.agg #[ji d.k, ji d.a, ji d.x.k, ji d.x.q, ji d.x.r, ji d.x.c, ji d.x.b, ji d.x.p, ji d.x.h, .bool d.x.up]) ∧ BE w' cb ad len cap f ∧ w.grownBy w' (some cb)
theorem Im (x : AG) {cb : Nat} {ad : Option Addr} {len cap : Nat} {f : Nat → Int} (w : World) (hs : BE w cb ad len cap f) (hcb : cb < w.heap.size) (hpo : x.po ≤ 4) (hne : x.net.length ≤ 20) (how : 0 ≤ x.rg.ow ∧ x.rg.ow ≤ 1) :
  Calls prog 148 #[.pointer (some (ja cb 0)), .agg (bc x)] w fun e w' => J3 w cb ad len cap f e w' := by
 obtain ⟨R, hRe⟩ := AC w.heap.size;have hR : w.heap.size ≤ R := by omega
 have hRc : R ≠ cb := by omega
 have hRd : R + 1 ≠ cb := by omega
 obtain ⟨x0, hx0⟩ := AC ((w.alloc (Obj.cells (bc x) 34)).alloc (Obj.cells #[ji 0, ji 0, ji 0, ji 0, ji 0, ji 0, ji 0, ji 0, ji 0, .bool false] 178));have D : DV w cb ad len cap x0 := by rw [hx0]; exact ((DV.start hs).alloc _).alloc _
 have A : AS x0 R x := by rw [hx0, hRe]; constructor <;> simp [go_sem]
 have B : DI x0 (R + 1) ⟨0, 0, BA⟩ := by rw [hx0, hRe]; refine ⟨?_, fun i => ?_⟩; constructor <;> simp [go_sem, BA]; simp [go_sem]
 go_enter func148, ntmps148
 have a0 := A.all;go_wp2_with fail
 go_at_call 38
 rw [← hx0, ← hRe];clear a0 hx0 hRe;refine (BU (D.src hs) 2 (by decide) (by decide)).mono ?_;rintro e w1 ⟨a, rfl, a0_, a1_, s_, g_⟩;have D := D.step s_ g_;have A := A.keep (g_.block _ A.lt (by simp; omega));have B := B.keep (g_.block _ B.lt (by simp; omega));clear s_ g_;go_wp2_with fail
 go_at_call 38
 refine (BU (D.src hs) 18 (by decide) (by decide)).mono ?_;rintro e w2 ⟨t, rfl, t0_, t1_, s_, g_⟩;have D := D.step s_ g_;have A := A.keep (g_.block _ A.lt (by simp; omega));have B := B.keep (g_.block _ B.lt (by simp; omega));clear s_ g_;by_cases e0 : t = 0
 focus
  subst e0
 rotate_left;focus
  have d0 : (t == 0) = false := by simpa using e0
  replace e0 : Hid (¬ t = 0) := e0;by_cases e1 : t = 1
  focus
   subst e1
  rotate_left;focus
   have d1 : (t == 1) = false := by simpa using e1
   replace e1 : Hid (¬ t = 1) := e1;by_cases e2 : t = 2
   focus
    subst e2
   rotate_left
   ·
    have d2 : (t == 2) = false := by simpa using e2
    replace e2 : Hid (¬ t = 2) := e2;by_cases e3 : t = 3
    focus
     subst e3
    rotate_left;focus
     have d3 : (t == 3) = false := by simpa using e3
     replace e3 : Hid (¬ t = 3) := e3;by_cases e4 : t = 4
     focus
      subst e4
     rotate_left;focus
      have d4 : (t == 4) = false := by simpa using e4
      replace e4 : Hid (¬ t = 4) := e4;by_cases e5 : t = 5
      focus
       subst e5
      rotate_left
      ·
       have d5 : (t == 5) = false := by simpa using e5
       replace e5 : Hid (¬ t = 5) := e5;by_cases e6 : t = 6
       focus
        subst e6
       rotate_left;focus
        have d6 : (t == 6) = false := by simpa using e6
        replace e6 : Hid (¬ t = 6) := e6;by_cases e7 : t = 7
        focus
         subst e7
        rotate_left;focus
         have d7 : (t == 7) = false := by simpa using e7
         replace e7 : Hid (¬ t = 7) := e7;by_cases e8 : t = 8
         focus
          subst e8
         rotate_left;focus
          have d8 : (t == 8) = false := by simpa using e8
          replace e8 : Hid (¬ t = 8) := e8;by_cases e9 : t = 9
          focus
           subst e9
          rotate_left
          ·
           have d9 : (t == 9) = false := by simpa using e9
           replace e9 : Hid (¬ t = 9) := e9;by_cases e10 : t = 10
           focus
            subst e10
           rotate_left;focus
            have d10 : (t == 10) = false := by simpa using e10
            replace e10 : Hid (¬ t = 10) := e10;by_cases e11 : t = 11
            focus
             subst e11
            rotate_left
            ·
             have d11 : (t == 11) = false := by simpa using e11
             replace e11 : Hid (¬ t = 11) := e11;by_cases e12 : t = 12
             ·
              subst e12;have DZ := Dt D (N := R + 1) (by omega) hcb (ji 10) (ji x.rg.ow) (ji 0) (ji 0) (ji 0) (ji 0) (ji 0) (ji 0) (ji 0) (.bool false);clear D A;obtain ⟨⟨q0, q1, q2, q3, q4, q5, q6, q7, q8, q9⟩, qf⟩ := B;obtain ⟨f0, f1, f2, f3, f4, f5, f6, f7, f8, f9⟩ := CT qf;clear qf;go_wp2
              refine bodyPost_ret (v := .agg #[ji 10, ji x.rg.ow, ji 0, ji 0, ji 0, ji 0, ji 0, ji 0, ji 0, .bool false]) (by simp [results, results148, go_sem, *]) rfl ⟨⟨10, x.rg.ow, BA⟩, rfl, DZ.src hs, DZ.gr⟩
             ·
              have d12 : (t == 12) = false := by simpa using e12
              replace e12 : Hid (¬ t = 12) := e12;by_cases e13 : t = 13
              ·
               subst e13;obtain ⟨w3, hw3⟩ := AC (w2.alloc (Obj.cells #[ji 4, ji 5, ji 11] 3));go_wp2_with fail
               go_at_call 41
               rw [← hw3];have kq : Bw w2 w3 := by rw [hw3]; exact Ae _
               have lA := A.lt;have lB := B.lt;have lc := D.cur.lt;have hg : ∀ i, i < 3 → w3.cell? (ja w2.heap.size i) = some (ji (([4, 5, 11] : List Int).getD i 0)) := fun i hi => by rw [hw3]; rcases (by omega : i = 0 ∨ i = 1 ∨ i = 2) with rfl | rfl | rfl <;> simp [go_sem]
               have D := D.later8 kq;have A := A.keep (kq.block _ lA);have B := B.keep (kq.block _ lB);clear hw3 kq;refine (HK (D.src hs) w2.heap.size 3 3 (fun i => ([4, 5, 11] : List Int).getD i 0) (by omega) (by decide) (by decide) hg).mono ?_;rintro e w5 ⟨i, _, rfl, s_, g_⟩;obtain ⟨kd, hkd⟩ := AC (([4, 5, 11] : List Int).getD i 0);dsimp only
               rw [← hkd];clear hkd hg;have D := D.step s_ g_;have A := A.keep (g_.block _ A.lt (by simp; omega));have B := B.keep (g_.block _ B.lt (by simp; omega));clear s_ g_;have DZ := Dt D (N := R + 1) (by omega) hcb (ji kd) (ji x.rg.ow) (ji 0) (ji 0) (ji 0) (ji 0) (ji 0) (ji 0) (ji 0) (.bool false);clear D A;obtain ⟨⟨q0, q1, q2, q3, q4, q5, q6, q7, q8, q9⟩, qf⟩ := B;obtain ⟨f0, f1, f2, f3, f4, f5, f6, f7, f8, f9⟩ := CT qf;clear qf;go_wp2
               refine bodyPost_ret (v := .agg #[ji kd, ji x.rg.ow, ji 0, ji 0, ji 0, ji 0, ji 0, ji 0, ji 0, .bool false]) (by simp [results, results148, go_sem, *]) rfl ⟨⟨kd, x.rg.ow, BA⟩, rfl, DZ.src hs, DZ.gr⟩
              ·
               have d13 : (t == 13) = false := by simpa using e13
               replace e13 : Hid (¬ t = 13) := e13;by_cases e14 : t = 14
               ·
                subst e14;have DZ := Dt D (N := R + 1) (by omega) hcb (ji 7) (ji a) (ji 0) (ji 0) (ji 0) (ji 0) (ji 0) (ji 0) (ji 0) (.bool false);clear D A;obtain ⟨⟨q0, q1, q2, q3, q4, q5, q6, q7, q8, q9⟩, qf⟩ := B;obtain ⟨f0, f1, f2, f3, f4, f5, f6, f7, f8, f9⟩ := CT qf;clear qf;go_wp2
                refine bodyPost_ret (v := .agg #[ji 7, ji a, ji 0, ji 0, ji 0, ji 0, ji 0, ji 0, ji 0, .bool false]) (by simp [results, results148, go_sem, *]) rfl ⟨⟨7, a, BA⟩, rfl, DZ.src hs, DZ.gr⟩
               ·
                have d14 : (t == 14) = false := by simpa using e14
                replace e14 : Hid (¬ t = 14) := e14;by_cases e15 : t = 15
                ·
                 subst e15;have DZ := Dt D (N := R + 1) (by omega) hcb (ji 8) (ji a) (ji 0) (ji 0) (ji 0) (ji 0) (ji 0) (ji 0) (ji 0) (.bool false);clear D A;obtain ⟨⟨q0, q1, q2, q3, q4, q5, q6, q7, q8, q9⟩, qf⟩ := B;obtain ⟨f0, f1, f2, f3, f4, f5, f6, f7, f8, f9⟩ := CT qf;clear qf;go_wp2
                 refine bodyPost_ret (v := .agg #[ji 8, ji a, ji 0, ji 0, ji 0, ji 0, ji 0, ji 0, ji 0, .bool false]) (by simp [results, results148, go_sem, *]) rfl ⟨⟨8, a, BA⟩, rfl, DZ.src hs, DZ.gr⟩
                ·
                 have d15 : (t == 15) = false := by simpa using e15
                 replace e15 : Hid (¬ t = 15) := e15;by_cases e16 : t = 16
                 ·
                  subst e16;have hwr : IntKind.i64.wrap (1 - x.rg.ow) = 1 - x.rg.ow := by rw [IntKind.wrap_i64]; omega
                  have DZ := Dt D (N := R + 1) (by omega) hcb (ji 9) (ji (1 - x.rg.ow)) (ji 0) (ji 0) (ji 0) (ji 0) (ji 0) (ji 0) (ji 0) (.bool false);clear D A;obtain ⟨⟨q0, q1, q2, q3, q4, q5, q6, q7, q8, q9⟩, qf⟩ := B;obtain ⟨f0, f1, f2, f3, f4, f5, f6, f7, f8, f9⟩ := CT qf;clear qf;go_wp2
                  refine bodyPost_ret (v := .agg #[ji 9, ji (1 - x.rg.ow), ji 0, ji 0, ji 0, ji 0, ji 0, ji 0, ji 0, .bool false]) (by simp [results, results148, go_sem, *]) rfl ⟨⟨9, (1 - x.rg.ow), BA⟩, rfl, DZ.src hs, DZ.gr⟩
                 ·
                  have d16 : (t == 16) = false := by simpa using e16
                  replace e16 : Hid (¬ t = 16) := e16;have DZ := Dt D (N := R + 1) (by omega) hcb (ji 12) (ji a) (ji 0) (ji 0) (ji 0) (ji 0) (ji 0) (ji 0) (ji 0) (.bool false);clear D A;obtain ⟨⟨q0, q1, q2, q3, q4, q5, q6, q7, q8, q9⟩, qf⟩ := B;obtain ⟨f0, f1, f2, f3, f4, f5, f6, f7, f8, f9⟩ := CT qf;clear qf;go_wp2
                  refine bodyPost_ret (v := .agg #[ji 12, ji a, ji 0, ji 0, ji 0, ji 0, ji 0, ji 0, ji 0, .bool false]) (by simp [results, results148, go_sem, *]) rfl ⟨⟨12, a, BA⟩, rfl, DZ.src hs, DZ.gr⟩
           rotate_left;all_goals
            have DZ := Dt D (N := R + 1) (by omega) hcb (ji 6) (ji 0) (ji 0) (ji 0) (ji 0) (ji 0) (ji 0) (ji 0) (ji 0) (.bool false);clear D A;obtain ⟨⟨q0, q1, q2, q3, q4, q5, q6, q7, q8, q9⟩, qf⟩ := B;obtain ⟨f0, f1, f2, f3, f4, f5, f6, f7, f8, f9⟩ := CT qf;clear qf;go_wp2
            refine bodyPost_ret (v := .agg #[ji 6, ji 0, ji 0, ji 0, ji 0, ji 0, ji 0, ji 0, ji 0, .bool false]) (by simp [results, results148, go_sem, *]) rfl ⟨⟨6, 0, BA⟩, rfl, DZ.src hs, DZ.gr⟩
         rotate_left
        rotate_left 2
       rotate_left 3;all_goals
        have a0 := A.all;go_wp2_with fail
        go_at_call 173
        clear a0;refine (Gh (x.net.length : Int) 1 _).mono ?_;rintro e u9 ⟨rfl, hw_⟩;rw [hw_];clear hw_ u9;obtain ⟨mx, hmx⟩ : ∃ t : Int, t = if 1 < (x.net.length : Int) then (x.net.length : Int) else 1 := ⟨_, rfl⟩
        rw [← hmx];have mx0 : 0 < mx := by rw [hmx]; split <;> omega
        have mx1 : mx ≤ 256 := by rw [hmx]; split <;> omega
        clear hmx;go_wp2_with fail
        go_at_call 38
        refine (BU (D.src hs) mx mx0 mx1).mono ?_;rintro e w5 ⟨pt, rfl, _, _, s_, g_⟩;have D := D.step s_ g_;have A := A.keep (g_.block _ A.lt (by simp; omega));have B := B.keep (g_.block _ B.lt (by simp; omega));clear s_ g_;have DZ := Dt D (N := R + 1) (by omega) hcb (ji 3) (ji pt) (ji 0) (ji 0) (ji 0) (ji 0) (ji 0) (ji 0) (ji 0) (.bool false);clear D A;obtain ⟨⟨q0, q1, q2, q3, q4, q5, q6, q7, q8, q9⟩, qf⟩ := B;obtain ⟨f0, f1, f2, f3, f4, f5, f6, f7, f8, f9⟩ := CT qf;clear qf;go_wp2
        refine bodyPost_ret (v := .agg #[ji 3, ji pt, ji 0, ji 0, ji 0, ji 0, ji 0, ji 0, ji 0, .bool false]) (by simp [results, results148, go_sem, *]) rfl ⟨⟨3, pt, BA⟩, rfl, DZ.src hs, DZ.gr⟩
     rotate_left
    rotate_left 2;all_goals
     have DZ := Dt D (N := R + 1) (by omega) hcb (ji 2) (ji x.rg.ow) (ji 0) (ji 0) (ji 0) (ji 0) (ji 0) (ji 0) (ji 0) (.bool false);clear D A;obtain ⟨⟨q0, q1, q2, q3, q4, q5, q6, q7, q8, q9⟩, qf⟩ := B;obtain ⟨f0, f1, f2, f3, f4, f5, f6, f7, f8, f9⟩ := CT qf;clear qf;go_wp2
     refine bodyPost_ret (v := .agg #[ji 2, ji x.rg.ow, ji 0, ji 0, ji 0, ji 0, ji 0, ji 0, ji 0, .bool false]) (by simp [results, results148, go_sem, *]) rfl ⟨⟨2, x.rg.ow, BA⟩, rfl, DZ.src hs, DZ.gr⟩
  rotate_left
 rotate_left 2;all_goals
  go_wp2_with fail
  go_at_call 88
  refine (GP _ (D.src hs) D.cur.lt).mono ?_;rintro e w3 ⟨v, rfl, s_, g_⟩;have D := D.step s_ g_;have A := A.keep (g_.block _ A.lt (by simp; omega));have B := B.keep (g_.block _ B.lt (by simp; omega));clear s_ g_;obtain ⟨vk, vq, vr, vc, vb, vp, vh, vu⟩ := v;dsimp only
  go_upto_region 8 with fail
  obtain ⟨w4, hw4, kq⟩ := AI w3 (Obj.cells #[ji vk, ji vq, ji vr, ji vc, ji vb, ji vp, ji vh, .bool vu] 64);rw [← hw4];have I : CP w4 w3.heap.size ⟨vk, vq, vr, vc, vb, vp, vh, vu⟩ := by rw [hw4]; exact ⟨BD.new w3 _ ⟨vk, vq, vr, vc, vb, vp, vh, vu⟩, fun i => by simp [go_sem]⟩
  have lA := A.lt;have lB := B.lt;have lc := D.cur.lt;have lw := D.gr.size;have D := D.later8 kq;have A := A.keep (kq.block _ lA);have B := B.keep (kq.block _ lB);clear hw4 kq;obtain ⟨q7, hq7⟩ := AC w3.heap.size;rw [← hq7] at I lA lB lc lw ⊢;clear hq7;by_cases hk2 : vk = 2
  ·
   have dk : (vk != 2) = false := by simpa using hk2
   replace hk2 : Hid _ := hk2;obtain ⟨⟨i0, i1, i2, i3, i4, i5, i6, i7⟩, if_⟩ := I;clear if_;have DZ := Dt D (N := R + 1) (by omega) hcb (ji 1) (ji 0) (ji (⟨vk, vq, vr, vc, vb, vp, vh, vu⟩ : Ik).k) (ji (⟨vk, vq, vr, vc, vb, vp, vh, vu⟩ : Ik).q) (ji (⟨vk, vq, vr, vc, vb, vp, vh, vu⟩ : Ik).r) (ji (⟨vk, vq, vr, vc, vb, vp, vh, vu⟩ : Ik).c) (ji (⟨vk, vq, vr, vc, vb, vp, vh, vu⟩ : Ik).b) (ji (⟨vk, vq, vr, vc, vb, vp, vh, vu⟩ : Ik).p) (ji (⟨vk, vq, vr, vc, vb, vp, vh, vu⟩ : Ik).h) (.bool (⟨vk, vq, vr, vc, vb, vp, vh, vu⟩ : Ik).up);clear D A;obtain ⟨⟨q0, q1, q2, q3, q4, q5, q6, q7, q8, q9⟩, qf⟩ := B;obtain ⟨f0, f1, f2, f3, f4, f5, f6, f7, f8, f9⟩ := CT qf;clear qf;go_wp2
   refine bodyPost_ret (v := .agg #[ji 1, ji 0, ji (⟨vk, vq, vr, vc, vb, vp, vh, vu⟩ : Ik).k, ji (⟨vk, vq, vr, vc, vb, vp, vh, vu⟩ : Ik).q, ji (⟨vk, vq, vr, vc, vb, vp, vh, vu⟩ : Ik).r, ji (⟨vk, vq, vr, vc, vb, vp, vh, vu⟩ : Ik).c, ji (⟨vk, vq, vr, vc, vb, vp, vh, vu⟩ : Ik).b, ji (⟨vk, vq, vr, vc, vb, vp, vh, vu⟩ : Ik).p, ji (⟨vk, vq, vr, vc, vb, vp, vh, vu⟩ : Ik).h, .bool (⟨vk, vq, vr, vc, vb, vp, vh, vu⟩ : Ik).up]) (by simp [results, results148, go_sem, *]) rfl ⟨⟨1, 0, (⟨vk, vq, vr, vc, vb, vp, vh, vu⟩ : Ik)⟩, rfl, DZ.src hs, DZ.gr⟩
  ·
   have dk : (vk != 2) = true := by simpa using hk2
   replace hk2 : Hid (¬ vk = 2) := hk2;have a0 := A.all;have i0 := I.at_.c0;go_wp2_with fail
   go_at_call 173
   clear a0 i0;refine (Gh x.po 1 w4).mono ?_;rintro e u9 ⟨rfl, hw_⟩;rw [hw_];clear hw_ u9;obtain ⟨mx, hmx⟩ : ∃ t : Int, t = if 1 < x.po then x.po else 1 := ⟨_, rfl⟩
   rw [← hmx];have mx0 : 0 < mx := by rw [hmx]; split <;> omega
   have mx1 : mx ≤ 256 := by rw [hmx]; split <;> omega
   clear hmx;go_wp2_with fail
   go_at_call 38
   refine (BU (D.src hs) mx mx0 mx1).mono ?_;rintro e w5 ⟨pt, rfl, _, _, s_, g_⟩;have D := D.step s_ g_;have A := A.keep (g_.block _ A.lt (by simp; omega));have B := B.keep (g_.block _ B.lt (by simp; omega));have I := I.grown g_ (by omega);clear s_ g_;obtain ⟨⟨i0, i1, i2, i3, i4, i5, i6, i7⟩, if_⟩ := I;have if1 := if_ 1;clear if_;go_upto_region 10 with fail
   obtain ⟨w6, hw6⟩ := AC (w5.setCell (ja q7 1) (ji pt));rw [← hw6];have kp : ∀ g_, g_ ≠ q7 → w6.heap[g_]? = w5.heap[g_]? := fun g_ hg => by rw [hw6]; exact AF hg
   have A := A.keep (kp _ (by omega));have B := B.keep (kp _ (by omega));have D : DV w cb ad len cap w6 := by rw [hw6]; exact D.set (N := q7) (by omega) hcb _
   have i0 : w6.cell? (ja q7 0) = some (ji vk) := by rw [hw6]; exact (AA (by decide)).trans i0
   have i1 : w6.cell? (ja q7 1) = some (ji pt) := by rw [hw6]; exact Aj i1
   have i2 : w6.cell? (ja q7 2) = some (ji vr) := by rw [hw6]; exact (AA (by decide)).trans i2
   have i3 : w6.cell? (ja q7 3) = some (ji vc) := by rw [hw6]; exact (AA (by decide)).trans i3
   have i4 : w6.cell? (ja q7 4) = some (ji vb) := by rw [hw6]; exact (AA (by decide)).trans i4
   have i5 : w6.cell? (ja q7 5) = some (ji vp) := by rw [hw6]; exact (AA (by decide)).trans i5
   have i6 : w6.cell? (ja q7 6) = some (ji vh) := by rw [hw6]; exact (AA (by decide)).trans i6
   have i7 : w6.cell? (ja q7 7) = some (.bool vu) := by rw [hw6]; exact (AA (by decide)).trans i7
   clear hw6 kp if1;have DZ := Dt D (N := R + 1) (by omega) hcb (ji 1) (ji 0) (ji (⟨vk, pt, vr, vc, vb, vp, vh, vu⟩ : Ik).k) (ji (⟨vk, pt, vr, vc, vb, vp, vh, vu⟩ : Ik).q) (ji (⟨vk, pt, vr, vc, vb, vp, vh, vu⟩ : Ik).r) (ji (⟨vk, pt, vr, vc, vb, vp, vh, vu⟩ : Ik).c) (ji (⟨vk, pt, vr, vc, vb, vp, vh, vu⟩ : Ik).b) (ji (⟨vk, pt, vr, vc, vb, vp, vh, vu⟩ : Ik).p) (ji (⟨vk, pt, vr, vc, vb, vp, vh, vu⟩ : Ik).h) (.bool (⟨vk, pt, vr, vc, vb, vp, vh, vu⟩ : Ik).up);clear D A;obtain ⟨⟨q0, q1, q2, q3, q4, q5, q6, q7, q8, q9⟩, qf⟩ := B;obtain ⟨f0, f1, f2, f3, f4, f5, f6, f7, f8, f9⟩ := CT qf;clear qf;go_wp2
   refine bodyPost_ret (v := .agg #[ji 1, ji 0, ji (⟨vk, pt, vr, vc, vb, vp, vh, vu⟩ : Ik).k, ji (⟨vk, pt, vr, vc, vb, vp, vh, vu⟩ : Ik).q, ji (⟨vk, pt, vr, vc, vb, vp, vh, vu⟩ : Ik).r, ji (⟨vk, pt, vr, vc, vb, vp, vh, vu⟩ : Ik).c, ji (⟨vk, pt, vr, vc, vb, vp, vh, vu⟩ : Ik).b, ji (⟨vk, pt, vr, vc, vb, vp, vh, vu⟩ : Ik).p, ji (⟨vk, pt, vr, vc, vb, vp, vh, vu⟩ : Ik).h, .bool (⟨vk, pt, vr, vc, vb, vp, vh, vu⟩ : Ik).up]) (by simp [results, results148, go_sem, *]) rfl ⟨⟨1, 0, (⟨vk, pt, vr, vc, vb, vp, vh, vu⟩ : Ik)⟩, rfl, DZ.src hs, DZ.gr⟩
def EY (m : Mi) : Bool := decide (m.up = false ∧ m.ep = 0 ∧ m.sd = 0 ∧ m.ac = 0 ∧ m.al = 0) && decide (m.lg.length = 0)
theorem JC (m : Mi) (w : World) : (binOp .eql 162 (.agg #[.bool m.up, ji m.li, ji m.ep, ji m.sd, ji m.ac, ji m.al]) (.agg #[.bool false, ji m.li, ji 0, ji 0, ji 0, ji 0])).run prog w = .ok (.bool (decide (m.up = false ∧ m.ep = 0 ∧ m.sd = 0 ∧ m.ac = 0 ∧ m.al = 0))) w := by
 go_simp
 all_goals ((repeat' split) <;> first | (simp_all; done) | grind)
theorem JB (m : Mi) (ad : Option Addr) (cap : Nat) (w : World) (hv : AH AO w ad m.lg) (hl : m.lg.length ≤ 1048577) :
  Calls prog 115 #[.agg #[.bool m.up, ji m.li, ji m.ep, .slice ad m.lg.length cap, ji m.sd, ji m.ac, ji m.al]] w fun e w' => e = .returned (.bool (EY m)) ∧ Bw w w' := by
 have hB := hv.lt AT (by omega);have eM := JC m;obtain ⟨R, hR⟩ := AC (EY m);rw [← hR];replace hR : Hid _ := hR;obtain ⟨y, hy, B0⟩ := AI w (Obj.cells (mc m ad cap) 52);have A : Ac y w.heap.size m (.slice ad m.lg.length cap) := by rw [hy]; exact Ac.new w _ _ _
 have S0 := A.lt;have hv1 := hv.below B0 hB;clear hv;go_enter func115, ntmps115
 go_upto_region 1 with fail
 rw [← hy];clear hy;refine AV (fun Y => Bw y Y) fun u0 hb0 => ?_
 refine tw 0 5 (.agg (mc m ad cap)) ?_ (hy := by intro Y hSw; have X := (A.below hSw A.lt).all; go_simp);refine tw 2 7 (.agg (mc m ad cap)) ?_ (hy := by intro Y hSw; have X := (A.below hSw A.lt).all; go_simp);refine w1 1 fun Kz hKz => ?_
 go_simp
 go_at_call 98
 refine (FF m ad cap u0 (hv1.below hb0 (hv1.lt AT (by omega))) hl).mono ?_;rintro e u1 ⟨q1, a1, c1, rfl, M1, O1, lo1, lq1, kq⟩;have hb1 := AE hb0 kq;have su1 := kq.size;have sb0 := hb0.size;have sq1 := M1.lt;clear kq;refine hKz _ _ ⟨hb1, ?_⟩;clear hKz Kz;refine w1 3 fun Kz hKz => ?_
 go_simp
 go_at_call 98
 refine (FF m ad cap u1 (hv1.below hb1 (hv1.lt AT (by omega))) hl).mono ?_;rintro e u2 ⟨q2, a2, c2, rfl, M2, O2, lo2, lq2, kq⟩;have hb2 := AE hb1 kq;have su2 := kq.size;have sb1 := hb1.size;have sq2 := M2.lt;have M1 := M1.below kq M1.lt;clear kq;refine hKz _ _ ⟨hb2, ?_⟩;clear hKz Kz;have hne1 : q1 ≠ q2 := by omega
 have hne2 : ∀ g, (Value.slice a2 m.lg.length c2).ownBlock = some g → g ≠ q1 := fun g e => by have := (O2.lt g e).1; omega
 have hne3 : ∀ g, (Value.slice a2 m.lg.length c2).ownBlock = some g → g ≠ q2 := fun g e => by have := lo2 g e; omega
 have hlo : y.heap.size ≤ q2 := by omega
 have hlo2 : ∀ g, (Value.slice a2 m.lg.length c2).ownBlock = some g → y.heap.size ≤ g := fun g e => by have := (O2.lt g e).1; omega
 clear lo2;refine tw 4 3 (.pointer (some (ja q1 0))) ?_;refine tw 5 4 (.pointer (some (ja q2 0))) ?_;refine AR ?_;clear lo1 O1 hv1 A;go_wp2_with fail
 go_at_call 143
 refine (KX m q2 _ a2 c2 u2 M2 O2 hne3).mono ?_;rintro e v ⟨rfl, N2, T⟩;have M1 := M1.keep (T.block q1 M1.lt hne1 (fun e => hne2 q1 e rfl));have hbv : Bw y v := hb2.trans (T.below hb2.size hlo hlo2);clear T M2 O2 hb2 hb1 hb0 hne2 hne3 hlo2;go_upto_region 3 with fail
 cases hF : decide (m.up = false ∧ m.ep = 0 ∧ m.sd = 0 ∧ m.ac = 0 ∧ m.al = 0)
 ·
  rw [hF] at eM;replace hF : Hid _ := hF;refine AV (fun Y => Bw v Y) fun u0 hb0 => ?_
  refine tw 0 11 (.pointer (some (ja q1 0))) ?_;refine tw 1 12 (.pointer (some (ja q1 0))) ?_;refine tw 2 13 (.pointer (some (ja q1 1))) ?_;refine tw 3 14 (.agg #[.bool m.up, ji m.li, ji m.ep, ji m.sd, ji m.ac, ji m.al]) ?_ (hy := by intro Y hSw; obtain ⟨X0, X1, X2, X3, X4, X5, X6, XF⟩ := M1.below hSw M1.lt; go_simp);refine tw 4 15 (.pointer (some (ja q2 0))) ?_;refine tw 5 16 (.pointer (some (ja q2 0))) ?_;refine tw 6 17 (.pointer (some (ja q2 1))) ?_;refine tw 7 18 (.agg #[.bool false, ji m.li, ji 0, ji 0, ji 0, ji 0]) ?_ (hy := by intro Y hSw; obtain ⟨X0, X1, X2, X3, X4, X5, X6, XF⟩ := N2.below hSw N2.lt; go_simp);refine tw 8 19 (.bool false) ?_;refine tw 9 20 (.bool false) ?_;refine ts 10 21 ?_;refine ts 11 22 ?_;refine ts 12 23 ?_;refine ts 13 24 ?_;refine ts 14 25 ?_;refine ts 15 26 ?_;refine ts 16 27 ?_;refine ts 17 28 ?_;refine ts 18 29 ?_;refine tw 19 30 (.bool false) ?_;refine tw 20 2 (.bool false) ?_;refine AR ?_;have hN : Hid (R = false) := by unfold Hid; rw [hR.out]; unfold EY; rw [hF.out]; rfl
  go_wp2
  go_ret
  exact ⟨by rw [hN.out]; rfl, B0.trans ((AE hbv hb0).mono B0.size)⟩
 rw [hF] at eM;replace hF : Hid _ := hF;cases hG : decide (m.lg.length = 0)
 ·
  have dG : ((m.lg.length : Int) == 0) = false := by rw [beq_eq_false_iff_ne]; have := of_decide_eq_false hG; omega
  replace hG : Hid _ := hG;refine AV (fun Y => Bw v Y) fun u0 hb0 => ?_
  refine tw 0 11 (.pointer (some (ja q1 0))) ?_;refine tw 1 12 (.pointer (some (ja q1 0))) ?_;refine tw 2 13 (.pointer (some (ja q1 1))) ?_;refine tw 3 14 (.agg #[.bool m.up, ji m.li, ji m.ep, ji m.sd, ji m.ac, ji m.al]) ?_ (hy := by intro Y hSw; obtain ⟨X0, X1, X2, X3, X4, X5, X6, XF⟩ := M1.below hSw M1.lt; go_simp);refine tw 4 15 (.pointer (some (ja q2 0))) ?_;refine tw 5 16 (.pointer (some (ja q2 0))) ?_;refine tw 6 17 (.pointer (some (ja q2 1))) ?_;refine tw 7 18 (.agg #[.bool false, ji m.li, ji 0, ji 0, ji 0, ji 0]) ?_ (hy := by intro Y hSw; obtain ⟨X0, X1, X2, X3, X4, X5, X6, XF⟩ := N2.below hSw N2.lt; go_simp);refine tw 8 19 (.bool true) ?_;refine tw 9 20 (.bool true) ?_;refine tw 10 21 (.pointer (some (ja q1 0))) ?_;refine tw 11 22 (.pointer (some (ja q1 0))) ?_;refine tw 12 23 (.pointer (some (ja q1 0))) ?_;refine tw 14 25 (.pointer (some (ja q2 0))) ?_;refine tw 15 26 (.pointer (some (ja q2 0))) ?_;refine tw 16 27 (.pointer (some (ja q2 0))) ?_;refine w1 13 fun Kz hKz => ?_
  go_simp
  go_at_call 140
  refine (Et q1 m.lg.length a1 c1 u0 (M1.below hb0 M1.lt).c0).mono ?_;rintro e u1 ⟨rfl, kq⟩;have hb1 : Bw v u1 := by rw [kq]; exact hb0
  clear kq;refine hKz _ _ ⟨hb1, ?_⟩;clear hKz Kz;refine w1 17 fun Kz hKz => ?_
  go_simp
  go_at_call 140
  refine (Et q2 0 a2 c2 u1 (N2.below hb1 N2.lt).c0).mono ?_;rintro e u2 ⟨rfl, kq⟩;have hb2 : Bw v u2 := by rw [kq]; exact hb1
  clear kq;refine hKz _ _ ⟨hb2, ?_⟩;clear hKz Kz;refine tw 18 29 (.bool false) ?_;refine tw 19 30 (.bool false) ?_;refine tw 20 2 (.bool false) ?_;refine AR ?_;have hN : Hid (R = false) := by unfold Hid; rw [hR.out]; unfold EY; rw [hF.out, hG.out]; rfl
  go_wp2
  go_ret
  exact ⟨by rw [hN.out]; rfl, B0.trans ((AE hbv hb2).mono B0.size)⟩
 have dG : ((m.lg.length : Int) == 0) = true := by rw [beq_iff_eq]; have := of_decide_eq_true hG; omega
 replace hG : Hid _ := hG;refine AV (fun Y => Bw v Y) fun u0 hb0 => ?_
 refine tw 0 11 (.pointer (some (ja q1 0))) ?_;refine tw 1 12 (.pointer (some (ja q1 0))) ?_;refine tw 2 13 (.pointer (some (ja q1 1))) ?_;refine tw 3 14 (.agg #[.bool m.up, ji m.li, ji m.ep, ji m.sd, ji m.ac, ji m.al]) ?_ (hy := by intro Y hSw; obtain ⟨X0, X1, X2, X3, X4, X5, X6, XF⟩ := M1.below hSw M1.lt; go_simp);refine tw 4 15 (.pointer (some (ja q2 0))) ?_;refine tw 5 16 (.pointer (some (ja q2 0))) ?_;refine tw 6 17 (.pointer (some (ja q2 1))) ?_;refine tw 7 18 (.agg #[.bool false, ji m.li, ji 0, ji 0, ji 0, ji 0]) ?_ (hy := by intro Y hSw; obtain ⟨X0, X1, X2, X3, X4, X5, X6, XF⟩ := N2.below hSw N2.lt; go_simp);refine tw 8 19 (.bool true) ?_;refine tw 9 20 (.bool true) ?_;refine tw 10 21 (.pointer (some (ja q1 0))) ?_;refine tw 11 22 (.pointer (some (ja q1 0))) ?_;refine tw 12 23 (.pointer (some (ja q1 0))) ?_;refine tw 14 25 (.pointer (some (ja q2 0))) ?_;refine tw 15 26 (.pointer (some (ja q2 0))) ?_;refine tw 16 27 (.pointer (some (ja q2 0))) ?_;refine w1 13 fun Kz hKz => ?_
 go_simp
 go_at_call 140
 refine (Et q1 m.lg.length a1 c1 u0 (M1.below hb0 M1.lt).c0).mono ?_;rintro e u1 ⟨rfl, kq⟩;have hb1 : Bw v u1 := by rw [kq]; exact hb0
 clear kq;refine hKz _ _ ⟨hb1, ?_⟩;clear hKz Kz;refine w1 17 fun Kz hKz => ?_
 go_simp
 go_at_call 140
 refine (Et q2 0 a2 c2 u1 (N2.below hb1 N2.lt).c0).mono ?_;rintro e u2 ⟨rfl, kq⟩;have hb2 : Bw v u2 := by rw [kq]; exact hb1
 clear kq;refine hKz _ _ ⟨hb2, ?_⟩;clear hKz Kz;refine tw 18 29 (.bool true) ?_;refine tw 19 30 (.bool true) ?_;refine tw 20 2 (.bool true) ?_;refine AR ?_;have hN : Hid (R = true) := by unfold Hid; rw [hR.out]; unfold EY; rw [hF.out, hG.out]; rfl
 go_wp2
 go_ret
 exact ⟨by rw [hN.out]; rfl, B0.trans ((AE hbv hb2).mono B0.size)⟩
theorem I9 (m : Mi) : Au m = (Df m && (m.up || EY m)) := by
 obtain ⟨up, li, ep, L, sd, ac, al⟩ := m;unfold Au Df EY Cn;dsimp only
 rw [Bool.eq_iff_iff];cases up
 ·
  simp only [Bool.and_eq_true, Bool.or_eq_true, decide_eq_true_eq];constructor
  ·
   rintro ⟨h1, h2, h3, ⟨h4, h5⟩, h6, h7, h8⟩;rcases h8 with h8 | ⟨h8, h9, h10⟩
   ·
    cases h8
   exact ⟨⟨h1, h2, h3, by omega, h4, h6, h7⟩, .inr ⟨⟨trivial, h8, by omega, by omega, h10⟩, h9⟩⟩
  rintro ⟨⟨h1, h2, h3, h4, h5, h6, h7⟩, h8⟩;rcases h8 with h8 | ⟨⟨_, h8, h9, h10, h11⟩, h12⟩
  ·
   cases h8
  exact ⟨h1, h2, h3, ⟨h5, by omega⟩, h6, h7, .inr ⟨h8, h12, h11⟩⟩
 simp only [Bool.and_eq_true, Bool.true_or, Bool.and_true, decide_eq_true_eq];constructor
 ·
  rintro ⟨h1, h2, h3, ⟨h4, h5⟩, h6, h7⟩;exact ⟨h1, h2, h3, by omega, h4, h6, h7⟩
 rintro ⟨h1, h2, h3, h4, h5, h6, h7⟩;exact ⟨h1, h2, h3, ⟨h5, by omega⟩, h6, h7⟩
theorem Hl (m : Mi) (ad : Option Addr) (cap : Nat) (w : World) (hv : AH AO w ad m.lg) (hl : m.lg.length ≤ 1048577) :
  Calls prog 71 #[.agg #[.bool m.up, ji m.li, ji m.ep, .slice ad m.lg.length cap, ji m.sd, ji m.ac, ji m.al]] w fun e w' => e = .returned (.bool (Au m)) ∧ Bw w w' := by
 have hB := hv.lt AT (by omega);obtain ⟨R, hR⟩ := AC (Au m);rw [← hR];rw [I9] at hR;replace hR : Hid _ := hR;obtain ⟨y, hy, B0⟩ := AI w (Obj.cells (mc m ad cap) 52);have A : Ac y w.heap.size m (.slice ad m.lg.length cap) := by rw [hy]; exact Ac.new w _ _ _
 have S0 := A.lt;have hv1 := hv.below B0 hB;clear hv;go_enter func71, ntmps71
 go_wp2_with fail
 go_at_call 98
 rw [← hy];clear hy;refine (FF m ad cap y hv1 hl).mono ?_;rintro e u1 ⟨q, a1, c1, rfl, M1, O1, _, _, k1⟩;have hb1 := AE B0 k1;have A := A.below k1 A.lt;have hv1 := hv1.below k1 (hv1.lt AT (by omega));clear k1;go_wp2_with fail
 go_at_call 114
 refine (KV m q a1 c1 u1 M1 O1.view.2 hl).mono ?_;rintro e u2 ⟨rfl, k2⟩;have hb2 := AE hb1 k2;have A := A.below k2 A.lt;have hv1 := hv1.below k2 (hv1.lt AT (by omega));clear k2 hb1 M1 O1;cases hF : Df m
 ·
  have hN : Hid (R = false) := by unfold Hid; rw [hR.out, hF]; rfl
  clear hF;go_wp2
  go_ret
  exact ⟨by rw [hN.out]; rfl, hb2⟩
 cases hU : m.up
 ·
  have hN : Hid (R = EY m) := by unfold Hid; rw [hR.out, hF, hU]; rfl
  clear hF;obtain ⟨x0, x1, x2, x3, x4, x5, x6⟩ := id A;rw [hU] at x0;go_wp2_with fail
  go_at_call 115
  clear x0 x1 x2 x3 x4 x5 x6;rw [← hU];refine (JB m ad cap u2 hv1 hl).mono ?_;rintro e u3 ⟨rfl, k3⟩;have hb3 := AE hb2 k3;rw [← hN.out];go_wp2
  go_ret
  exact ⟨rfl, hb3⟩
 have hN : Hid (R = true) := by unfold Hid; rw [hR.out, hF, hU]; rfl
 clear hF;obtain ⟨x0, x1, x2, x3, x4, x5, x6⟩ := A;rw [hU] at x0;go_wp2
 go_ret
 exact ⟨by rw [hN.out]; rfl, hb2⟩
theorem HX (r : Rg) (s : Int) (m : Mi) (ad : Option Addr) (cap : Nat) (w : World) (hv : AH AO w ad m.lg) (hl : m.lg.length ≤ 1048577) :
  Calls prog 24 #[.agg #[ji r.ep, ji r.ow, ji r.pa], ji s, .agg #[.bool m.up, ji m.li, ji m.ep, .slice ad m.lg.length cap, ji m.sd, ji m.ac, ji m.al]] w fun e w' => e = .returned (.bool (Cq r s m)) ∧ Bw w w' := by
 have hB := hv.lt AT (by omega);obtain ⟨R, hR⟩ := AC (Cq r s m);rw [← hR];replace hR : Hid _ := hR;obtain ⟨y, hy⟩ := AC ((w.alloc (Obj.cells #[ji r.ep, ji r.ow, ji r.pa] 27)).alloc (Obj.cells (mc m ad cap) 52));have B0 : Bw w y := by rw [hy]; exact ((Below.refl _ _).alloc (Nat.le_refl _) _).alloc (by simp) _
 have A : Al y w.heap.size r := by rw [hy]; constructor <;> simp [go_sem]
 have M : Ac y (w.heap.size + 1) m (.slice ad m.lg.length cap) := by rw [hy]; constructor <;> simp [go_sem]
 have S0 := M.lt;have hv1 := hv.below B0 hB;clear hv hB;go_enter func24, ntmps24
 go_upto_region 1 with fail
 rw [← hy];clear hy;refine AV (fun Y => Bw y Y) fun u0 hb0 => ?_
 refine tw 0 7 (.agg #[ji r.ep, ji r.ow, ji r.pa]) ?_ (hy := by intro Y hSw; have X := (A.below hSw A.lt).all; go_simp);refine w1 1 fun Kz hKz => ?_
 go_simp
 go_at_call 48
 refine (HT r u0).mono ?_;rintro e u1 ⟨rfl, kq⟩;have hb1 := AE hb0 kq;clear kq;refine hKz _ _ ⟨hb1, ?_⟩;clear hKz Kz;cases h1 : (BV r)
 ·
  replace h1 : Hid _ := h1;refine tw 2 9 (.bool false) ?_;refine ts 3 10 ?_;refine ts 4 11 ?_;refine tw 5 12 (.bool false) ?_;refine tw 6 13 (.bool false) ?_;refine ts 7 14 ?_;refine ts 8 15 ?_;refine tw 9 16 (.bool false) ?_;refine tw 10 17 (.bool false) ?_;refine ts 11 18 ?_;refine ts 13 20 ?_;refine ts 14 21 ?_;refine ts 15 22 ?_;refine ts 12 19 ?_;refine ts 16 23 ?_;refine tw 17 24 (.bool false) ?_;refine tw 18 6 (.bool false) ?_;refine AR ?_;have hN : Hid (R = false) := by unfold Hid; rw [hR.out]; unfold Cq; rw [h1.out]; rfl
  go_wp2
  go_ret
  exact ⟨by rw [hN.out]; rfl, AE B0 hb1⟩
 replace h1 : Hid _ := h1;refine tw 2 9 (.bool true) ?_;refine tw 3 10 (.agg (mc m ad cap)) ?_ (hy := by intro Y hSw; have X := (M.below hSw M.lt).all; go_simp);refine w1 4 fun Kz hKz => ?_
 go_simp
 go_at_call 71
 refine (Hl m ad cap u1 (hv1.below hb1 (hv1.lt AT (by omega))) hl).mono ?_;rintro e u2 ⟨rfl, kq⟩;have hb2 := AE hb1 kq;clear kq;refine hKz _ _ ⟨hb2, ?_⟩;clear hKz Kz;cases h2 : (Au m)
 ·
  replace h2 : Hid _ := h2;refine tw 5 12 (.bool false) ?_;refine tw 6 13 (.bool false) ?_;refine ts 7 14 ?_;refine ts 8 15 ?_;refine tw 9 16 (.bool false) ?_;refine tw 10 17 (.bool false) ?_;refine ts 11 18 ?_;refine ts 13 20 ?_;refine ts 14 21 ?_;refine ts 15 22 ?_;refine ts 12 19 ?_;refine ts 16 23 ?_;refine tw 17 24 (.bool false) ?_;refine tw 18 6 (.bool false) ?_;refine AR ?_;have hN : Hid (R = false) := by unfold Hid; rw [hR.out]; unfold Cq; rw [h1.out, h2.out]; rfl
  go_wp2
  go_ret
  exact ⟨by rw [hN.out]; rfl, AE B0 hb2⟩
 replace h2 : Hid _ := h2;refine tw 5 12 (.bool true) ?_;refine tw 6 13 (.bool true) ?_;refine tw 7 14 (.pointer (some ⟨w.heap.size + 1, 0, none⟩)) ?_;refine tw 8 15 (.bool (m.up)) ?_ (hy := by intro Y hSw; have X := (M.below hSw M.lt).all; go_simp);cases h3 : (m.up)
 ·
  replace h3 : Hid _ := h3;refine tw 9 16 (.bool false) ?_;refine tw 10 17 (.bool false) ?_;refine ts 11 18 ?_;refine ts 13 20 ?_;refine ts 14 21 ?_;refine ts 15 22 ?_;refine ts 12 19 ?_;refine ts 16 23 ?_;refine tw 17 24 (.bool false) ?_;refine tw 18 6 (.bool false) ?_;refine AR ?_;have hN : Hid (R = false) := by unfold Hid; rw [hR.out]; unfold Cq; rw [h1.out, h2.out, h3.out]; rfl
  go_wp2
  go_ret
  exact ⟨by rw [hN.out]; rfl, AE B0 hb2⟩
 replace h3 : Hid _ := h3;refine tw 9 16 (.bool true) ?_;refine tw 10 17 (.bool true) ?_;refine tw 11 18 (.agg #[ji r.ep, ji r.ow, ji r.pa]) ?_ (hy := by intro Y hSw; have X := (A.below hSw A.lt).all; go_simp);refine tw 13 20 (ji s) ?_;refine tw 14 21 (.pointer (some ⟨w.heap.size + 1, 2, none⟩)) ?_;refine tw 15 22 (ji m.ep) ?_ (hy := by intro Y hSw; have X := (M.below hSw M.lt).all; go_simp);refine w1 12 fun Kz hKz => ?_
 go_simp
 go_at_call 72
 refine (JU r u2).mono ?_;rintro e u3 ⟨qg, rfl, G, lg, kq⟩;have hb3 := AE hb2 kq;have lg2 : y.heap.size ≤ qg := by have := hb2.size; omega
 clear kq lg;refine hKz _ _ ⟨hb3, ?_⟩;clear hKz Kz;refine w1 16 fun Kz hKz => ?_
 go_simp
 go_at_call 73
 refine (KM r s m.ep qg u3 G).mono ?_;rintro e u4 ⟨rfl, G', tq⟩;have hb4 : Bw y u4 := hb3.trans (tq.below hb3.size lg2 (fun g e => by cases e));clear tq G';refine hKz _ _ ⟨hb4, ?_⟩;clear hKz Kz;refine tw 17 24 (.bool (decide (r.ow = s) && decide (r.ep = m.ep))) ?_;refine tw 18 6 (.bool (decide (r.ow = s) && decide (r.ep = m.ep))) ?_;refine AR ?_;have hN : Hid (R = (decide (r.ow = s) && decide (r.ep = m.ep))) := by unfold Hid; rw [hR.out]; unfold Cq; rw [h1.out, h2.out, h3.out]; simp [eq_comm]
 go_wp2
 go_ret
 exact ⟨by rw [hN.out]; rfl, AE B0 hb4⟩
end Go.Proofs.YtjmnaeeknomiaaaGreat
