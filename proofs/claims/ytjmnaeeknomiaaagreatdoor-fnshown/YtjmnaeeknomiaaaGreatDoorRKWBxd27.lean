import Derived.Test.YtjmnaeeknomiaaaGreatDoorRKWRd13
namespace Go.Proofs.YtjmnaeeknomiaaaGreatDoor
open Go.ChangeShapes Go.WideShapes Go.ChangeAt Go.RowKit
open Go.ChangeMaps (open_string shut_string)
set_option linter.unusedVariables false
set_option maxRecDepth 100000
set_option maxHeartbeats 32000000
set_option linter.unusedSimpArgs false
open Go.Proofs.Tryz
attribute [local go_sem] ji ja bc ic
structure Dy (x : AF) : Prop where
 t : x.two.length = 2
 l : ∀ k, k < 2 → (x.two.getD k AD.nil).m.lg.length ≤ 61
 n : x.net.length ≤ 21
 g : x.ga.length ≤ 4
 i : x.ln.length ≤ 61
 s : x.sd.length ≤ 40
 w : ∀ k, k < 2 → Cs (x.two.getD k AD.nil).m
 r : EU x.rg
theorem KC {x : AF} (h : BA x.p = true) : Dy x := by
 obtain ⟨a, b, c, d, e, f⟩ := EL h;exact ⟨a, fun k hk => by have := Ei (b k hk); omega, by omega, d, by omega, f, fun k hk => IJ (b k hk), H2 h⟩
theorem Kc {x : AF} (h : BA x.p = true) : 0 < x.ga.length := by
 obtain ⟨h1, _, _, _, _, _, _, h8, _, _⟩ := Eb.1 h;have h1 : Au x.id x.po = true := h1;have h8 : (x.ga.length : Int) = x.po := h8;unfold Au at h1;simp only [Bool.and_eq_true, decide_eq_true_eq] at h1;omega
def LI (w : World) (cb : Nat) (ad : Option Addr) (len cap : Nat) (f : Nat → Int) (e : Ending) (w' : World) : Prop :=
 ∃ x : AF, e = .returned (.agg (bc x)) ∧ Dy x ∧ AL w.heap.size w' x ∧ At w' cb ad len cap f ∧ w.grownBy w' (some cb)
theorem Aa.fresh {base q z : Nat} {w W : World} {x : AF} (h : Aa base q z w W x) : Aa base q z W W x := ⟨h.O, h.A, h.NA, h.Z, h.NZ, Below.refl _ _, h.b0, h.bz, h.ne⟩
theorem Aa.cur {base q z cb : Nat} {w W W2 : World} {x : AF} (h : Aa base q z w W x) (g : W.grownBy W2 (some cb)) (hcb : cb < base) : Aa base q z W2 W2 x :=
 ⟨h.O.cur g hcb, h.A.keep (g.block _ h.A.lt (by have := h.b0; simp; omega)), h.NA, h.Z.keep (g.block _ (BR h.Z) (by have := h.bz; simp; omega)), h.NZ, Below.refl _ _, h.b0, h.bz, h.ne⟩
theorem DV.belowB {w W W' : World} {cb : Nat} {ad : Option Addr} {len cap : Nat} (h : DV w cb ad len cap W) (k : Below w.heap.size W W') (hcb : cb < w.heap.size) : DV w cb ad len cap W' :=
 ⟨h.cur.carry (k.block _ hcb), k.os.trans h.gr.os, k.tape.trans h.gr.tape, k.output.trans h.gr.output, Nat.le_trans h.gr.size k.size, fun i hi hn => (k.block i hi).trans (h.gr.block i hi hn)⟩
theorem Aa.setG {base q z : Nat} {w W : World} {x : AF} (h : Aa base q z w W x) {g k : Nat} (hat : x.aG = some (ja g 0)) (hk : k < x.ga.length) (b : Bool) : Aa base q z w (Cg W g (k * 1) (Bz b)) { x with ga := x.ga.set k b } := by
 have kp : ∀ k_, k_ ≠ g → (Cg W g (k * 1) (Bz b)).heap[k_]? = W.heap[k_]? := fun k_ hk_ => DH (Bz b) W (k * 1) k_ hk_
 have gq : g ≠ q := h.NA.g g (BP hat rfl);have gz : g ≠ z := h.NZ.g g (BP hat rfl);have A := h.A.keep (kp _ (fun e => gq e.symm));have hl : (x.ga.set k b).length = x.ga.length := by simp
 refine ⟨h.O.setG hat hk b, ⟨⟨A.at_.c0, A.at_.c1, A.at_.c2, A.at_.c3, A.at_.c4, A.at_.c5, A.at_.c6, by rw [hl]; exact A.at_.c7, A.at_.c8, A.at_.c9⟩, A.fr⟩, ⟨h.NA.t, h.NA.n, by rw [hl]; exact h.NA.g, h.NA.i, h.NA.s, h.NA.l⟩, h.Z.keep (kp _ (fun e => gz e.symm)), ⟨h.NZ.t, h.NZ.n, by rw [hl]; exact h.NZ.g, h.NZ.i, h.NZ.s, h.NZ.l⟩, ?_, h.b0, h.bz, h.ne⟩;exact Dp (h.O.g.lt g (BP hat rfl)).1 (Bz b) (k * 1) h.B
theorem Aa.setP {base q z : Nat} {w W : World} {x : AF} (h : Aa base q z w W x) (p : Int) : Aa base q z w (W.setCell (ja q 1) (ji p)) { x with po := p } := by
 have kp : ∀ g, g ≠ q → (W.setCell (ja q 1) (ji p)).heap[g]? = W.heap[g]? := fun g hg => AE hg
 have O := h.O.keepQ h.NA kp;obtain ⟨⟨c0, c1, c2, c3, c4, c5, c6, c7, c8, c9⟩, f⟩ := h.A;exact ⟨⟨O.t, O.l, O.n, O.g, O.i, O.s, O.ap⟩, ⟨⟨AP c0, EV c1, AP c2, AP c3, AP c4, AP c5, AP c6, AP c7, AP c8, AP c9⟩, fun i => by rw [World.frozen?_setCell]; exact f i⟩, ⟨h.NA.t, h.NA.n, h.NA.g, h.NA.i, h.NA.s, h.NA.l⟩, h.Z.keep (kp _ h.ne), ⟨h.NZ.t, h.NZ.n, h.NZ.g, h.NZ.i, h.NZ.s, h.NZ.l⟩, h.B.setCell (p := (ja q 1)) h.b0 _, h.b0, h.bz, h.ne⟩
theorem Dy.setT {x : AF} (h : Dy x) (k : Nat) (d : AD) (hd : d.m.lg.length ≤ 61) (hw : Cs d.m) : Dy (x.setT k d) :=
 ⟨by show (x.two.set k d).length = 2; simp [h.t], fun j hj => EZ x.two k d (fun y => y.m.lg.length ≤ 61) (fun j hj => h.l j (by have := h.t; omega)) hd j (by have := h.t; simp; omega), h.n, h.g, h.i, h.s, fun j hj => EZ x.two k d (fun y => Cs y.m) (fun j hj => h.w j (by have := h.t; omega)) hw j (by have := h.t; simp; omega), h.r⟩
theorem K7 {cb : Nat} {ad : Option Addr} {len cap : Nat} {f : Nat → Int} (w : World) (hs : At w cb ad len cap f) (hcb : cb < w.heap.size) : Calls prog 71 #[.pointer (some (ja cb 0))] w fun e w' => LI w cb ad len cap f e w' := by
 obtain ⟨i1, hi1, hz10, hz11, hz12⟩ := info_parts Fs;obtain ⟨i3, hi3, hz30, hz31, hz32⟩ := info_parts FZ;obtain ⟨y0, hy0⟩ := AC (w.alloc (Obj.cells #[ji 0, ji 0, ji 0, ji 0, ji 0, .slice none 0 0, .slice none 0 0, .slice none 0 0, .slice none 0 0, .slice none 0 0] 63));have D : DV w cb ad len cap y0 := by rw [hy0]; exact (DV.start hs).alloc _
 have Z : Aj y0 w.heap.size := by rw [hy0]; exact Cl w _
 have l0 := Z.lt_;go_enter func71, ntmps71
 go_wp2_with fail
 go_at_call 103
 rw [← hy0];clear hy0;refine (Gr y0 (D.src hs) D.cur.lt).mono ?_;rintro e y1 ⟨x, rfl, hxo, O, s_, g_⟩;have D := D.step s_ g_;have Z := Z.keep (g_.block _ Z.lt_ (by simp; omega));have NZ : Ai w.heap.size x := ⟨fun b e => by have := O.t.lt b e; omega, fun b e => by have := O.n.lt b e; omega, fun b e => by have := O.g.lt b e; omega, fun b e => by have := O.i.lt b e; omega, fun b e => by have := O.s.lt b e; omega, fun j hj b e => by have := (O.l j hj).lt b e; omega⟩;have O := O.base (b2 := w.heap.size) (by omega);have hbx := KC hxo;have hga := Kc hxo;have hnet := (EL hxo).2.2.1;have hlin := (EL hxo).2.2.2.2.1;clear s_ g_ l0 hxo;obtain ⟨U, hU, kq⟩ := AM y1 (Obj.cells (bc x) 63);have A : AS U y1.heap.size x := by rw [hU]; exact AS.new y1 63 x
 have zy := Z.lt_;have S : Aa w.heap.size y1.heap.size w.heap.size U U x := ⟨O.later kq, A, O.ne (Nat.le_refl _), Z.keep (kq.block _ Z.lt_), NZ, Below.refl _ _, by omega, Nat.le_refl _, by omega⟩;have D := D.later8 kq;go_upto_region 2 with fail
 rw [← hU];clear hU kq A O Z NZ zy;generalize y1.heap.size = Q at S ⊢
 go_wp2_with fail
 go_at_call 56
 refine (BD (D.src hs) 16 (by decide) (by decide)).mono ?_;rintro e y3 ⟨v, rfl, v0, v1, s_, g_⟩;have D := D.step s_ g_;have S := S.cur g_ hcb;clear s_ g_;have hQ := S.b0;have hQl := S.A.lt;have hQz := S.ne;by_cases h0 : v = 0
 focus
  subst h0;go_upto_region 4 with fail
  obtain ⟨U, hU⟩ := AC y3;rw [← hU] at S D ⊢;clear hU;refine Fn (fun Y => AS Y Q x) 7 ?_;intro u0 hu0;change Cz _ _ _ _ _ _ _ _ _ _;have kd : Bw U u0 := by rw [hu0]; exact (Below.refl _ _).drew
  clear hu0;have D := D.later8 kd;have S := (S.later kd).fresh;clear kd;have sA := S.A;obtain ⟨g, hat⟩ := S.O.t.first (by have := hbx.t; omega);replace hat : Hid _ := hat;refine DK 0 10 (.pointer (some (ja Q 5))) rfl rfl (fun Y hSw => by go_simp) (by assumption) ?_;simp only [List.set_cons_zero, List.set_cons_succ];refine DK 1 11 (.slice (some (ja g 0)) x.two.length x.cT) rfl rfl (fun Y hSw => by obtain ⟨⟨X0, X1, X2, X3, X4, X5, X6, X7, X8, X9⟩, _⟩ := hSw; rw [hat.out] at X5; go_simp) (by assumption) ?_;simp only [List.set_cons_zero, List.set_cons_succ];refine DK 2 12 (.pointer (some (ja cb 0))) rfl rfl (fun Y hSw => by go_simp) (by assumption) ?_;simp only [List.set_cons_zero, List.set_cons_succ];refine DK 4 14 (.pointer (some (ja cb 0))) rfl rfl (fun Y hSw => by go_simp) (by assumption) ?_;simp only [List.set_cons_zero, List.set_cons_succ];refine Dn 3 ?_;refine Ac rfl fun Kz hKz => ?_
  go_simp
  go_at_call 56
  refine (BD (D.src hs) 2 (by decide) (by decide)).mono ?_;rintro e u1 ⟨k_, rfl, k_0, k_1, s_, g_⟩;have D := D.step s_ g_;have S := S.cur g_ hcb;clear s_ g_;have sA := S.A;refine hKz _ _ ⟨fun _ => S.A, ?_⟩;clear hKz Kz;obtain ⟨k, rfl⟩ : ∃ k : Nat, k_ = (k : Int) := ⟨k_.toNat, by omega⟩;have hkl : k < x.two.length := by have := hbx.t; omega
  have hct : x.two.length ≤ x.cT := by have := hbx.t; exact S.O.t.capM
  refine Dn 5 ?_;refine Ac rfl fun Kz hKz => ?_
  have su1 := S.sz;go_simp
  go_at_call 70
  refine (IM HP u1 (D.src hs) (by omega)).mono ?_;rintro e u2 ⟨m, a, c, rfl, ⟨hml, hmw⟩, OM, s_, g_⟩;have D := D.step s_ g_;have lx := fun b e => (S.O.i.lt b e).2
  have lq := S.A.lt;have S := S.cur g_ hcb;clear s_ g_;have sA := S.A;refine hKz _ _ ⟨fun _ => S.A, ?_⟩;clear hKz Kz;refine DK 6 16 (.pointer (some ⟨g, k * 7, none⟩)) rfl rfl (fun Y hSw => by go_simp; try omega) (by assumption) ?_;simp only [List.set_cons_zero, List.set_cons_succ];refine Dn 7 ?_;refine Ac rfl fun Kz hKz => ?_
  have ot := S.O.t;rw [hat.out] at ot;have f0 := ot.frozen (k * 7);have f1 := ot.frozen (k * 7 + 1);have f2 := ot.frozen (k * 7 + 2);have f3 := ot.frozen (k * 7 + 3);have f4 := ot.frozen (k * 7 + 4);have f5 := ot.frozen (k * 7 + 5);have f6 := ot.frozen (k * 7 + 6);have v0_ := ot.cell BC AD.nil hkl 0 _ rfl;have v1_ := ot.cell BC AD.nil hkl 1 _ rfl;have v2_ := ot.cell BC AD.nil hkl 2 _ rfl;have v3_ := ot.cell BC AD.nil hkl 3 _ rfl;have v4_ := ot.cell BC AD.nil hkl 4 _ rfl;have v5_ := ot.cell BC AD.nil hkl 5 _ rfl;have v6_ := ot.cell BC AD.nil hkl 6 _ rfl;clear ot;simp only [Nat.add_zero] at v0_;go_simp
  clear f0 v0_ f1 v1_ f2 v2_ f3 v3_ f4 v4_ f5 v5_ f6 v6_;obtain ⟨u3, hu3⟩ := AC (((((((u2.setCell ⟨g, k * 7, none⟩ (.bool m.up)).setCell ⟨g, k * 7 + 1, none⟩ (ji m.li)).setCell ⟨g, k * 7 + 2, none⟩ (ji m.ep)).setCell ⟨g, k * 7 + 3, none⟩ (.slice a m.lg.length c)).setCell ⟨g, k * 7 + 4, none⟩ (ji m.sd)).setCell ⟨g, k * 7 + 5, none⟩ (ji m.ac)).setCell ⟨g, k * 7 + 6, none⟩ (ji m.al));have S : Aa w.heap.size Q w.heap.size u2 u3 (x.setT k (⟨m, a, c⟩ : AD)) := by rw [hu3]; exact S.setT hat.out hkl ⟨m, a, c⟩ (OM.base (by have := su1; omega)) (fun g_ e e2 => by have := (OM.lt g_ e).1; have := lx g_ e2; omega) (fun g_ e => by have := (OM.lt g_ e).1; constructor <;> omega)
  rw [← hu3];clear hu3;have D := D.belowB S.B hcb;refine hKz _ _ ⟨fun e => absurd rfl e, ?_⟩;clear hKz Kz;refine FD ?_;obtain ⟨x2, hx2⟩ : ∃ x2 : AF, x2 = x.setT k (⟨m, a, c⟩ : AD) := ⟨_, rfl⟩;rw [← hx2] at S;have hb2 : Dy x2 := by rw [hx2]; exact hbx.setT k _ hml hmw
  clear hx2;clear OM lx lq sA hct hat
 rotate_left;by_cases h1 : v = 1
 focus
  subst h1;go_wp2_with fail
  go_at_call 104
  refine (Ka y3 (D.src hs) (by omega)).mono ?_;rintro e u1 ⟨rg, rfl, hrl, s_, g_⟩;have D := D.step s_ g_;have S := S.cur g_ hcb;clear s_ g_;obtain ⟨⟨a0, a1, a2, a3, a4, a5, a6, a7, a8, a9⟩, af⟩ := S.A;have f2 := af 2;have f3 := af 3;have f4 := af 4;clear af;have S := S.setR rg;obtain ⟨u2, hu2⟩ := AC (((u1.setCell (ja Q 2) (ji rg.ep)).setCell (ja Q 3) (ji rg.ow)).setCell (ja Q 4) (ji rg.pa));go_upto_region 15 with fail
  rw [← hu2] at S ⊢;clear hu2 a0 a1 a2 a3 a4 a5 a6 a7 a8 a9 f2 f3 f4;have D := D.belowB S.B hcb;obtain ⟨x2, hx2⟩ : ∃ x2 : AF, x2 = { x with rg := rg } := ⟨_, rfl⟩;rw [← hx2] at S;have hb2 : Dy x2 := by rw [hx2]; exact ⟨hbx.t, hbx.l, hbx.n, hbx.g, hbx.i, hbx.s, hbx.w, hrl⟩
  clear hx2
 rotate_left;by_cases h2 : v = 2
 focus
  subst h2;go_upto_region 8 with fail
  obtain ⟨U, hU⟩ := AC y3;rw [← hU] at S D ⊢;clear hU;refine Fn (fun Y => AS Y Q x) 12 ?_;intro u0 hu0;change Cz _ _ _ _ _ _ _ _ _ _;have kd : Bw U u0 := by rw [hu0]; exact (Below.refl _ _).drew
  clear hu0;have D := D.later8 kd;have S := (S.later kd).fresh;clear kd;have sA := S.A;refine DK 0 24 (.pointer (some (ja Q 6))) rfl rfl (fun Y hSw => by go_simp) (by assumption) ?_;simp only [List.set_cons_zero, List.set_cons_succ];refine DK 1 25 (.slice x.aN x.net.length x.cN) rfl rfl (fun Y hSw => by obtain ⟨⟨X0, X1, X2, X3, X4, X5, X6, X7, X8, X9⟩, _⟩ := hSw; go_simp) (by assumption) ?_;simp only [List.set_cons_zero, List.set_cons_succ];refine DK 2 26 (.pointer (some (ja cb 0))) rfl rfl (fun Y hSw => by go_simp) (by assumption) ?_;simp only [List.set_cons_zero, List.set_cons_succ];refine DK 4 28 (.pointer (some (ja cb 0))) rfl rfl (fun Y hSw => by go_simp) (by assumption) ?_;simp only [List.set_cons_zero, List.set_cons_succ];refine DK 6 30 (.pointer (some (ja cb 0))) rfl rfl (fun Y hSw => by go_simp) (by assumption) ?_;simp only [List.set_cons_zero, List.set_cons_succ];refine Dn 3 ?_;refine Ac rfl fun Kz hKz => ?_
  go_simp
  go_at_call 56
  refine (BD (D.src hs) 3 (by decide) (by decide)).mono ?_;rintro e u1 ⟨b1, rfl, b10, b11, s_, g_⟩;have D := D.step s_ g_;have S := S.cur g_ hcb;clear s_ g_;have sA := S.A;refine hKz _ _ ⟨fun _ => S.A, ?_⟩;clear hKz Kz;refine Dn 5 ?_;refine Ac rfl fun Kz hKz => ?_
  go_simp
  go_at_call 56
  refine (BD (D.src hs) 3 (by decide) (by decide)).mono ?_;rintro e u2 ⟨b2, rfl, b20, b21, s_, g_⟩;have D := D.step s_ g_;have S := S.cur g_ hcb;clear s_ g_;have sA := S.A;refine hKz _ _ ⟨fun _ => S.A, ?_⟩;clear hKz Kz;refine Dn 7 ?_;refine Ac rfl fun Kz hKz => ?_
  go_simp
  go_at_call 38
  refine (Gx u2 (D.src hs) (by have := S.sz; omega)).mono ?_;rintro e u3 ⟨xx, rfl, s_, g_, _⟩;have D := D.step s_ g_;have S := S.cur g_ hcb;clear s_ g_;have sA := S.A;refine hKz _ _ ⟨fun _ => S.A, ?_⟩;clear hKz Kz;refine DK 8 32 (.agg #[ji b1, .bool false, ji 1, ji b2, ji xx.k, ji xx.q, ji xx.r, ji xx.c, ji xx.b, ji xx.p, ji xx.h, .bool xx.up]) rfl rfl (fun Y hSw => by go_simp) (by assumption) ?_;simp only [List.set_cons_zero, List.set_cons_succ];refine Dn 9 ?_;refine Ac rfl fun Kz hKz => ?_
  go_simp
  obtain ⟨v1_, hv1, k1⟩ := AM u3 (Obj.cells #[ji b1, .bool false, ji 1, ji b2, ji xx.k, ji xx.q, ji xx.r, ji xx.c, ji xx.b, ji xx.p, ji xx.h, .bool xx.up] 164);have V1 : AI As v1_ (some (ja u3.heap.size 0)) [(⟨b1, false, 1, b2, xx⟩ : Wi)] := by rw [hv1]; exact AI.oneW u3 _ ⟨b1, false, 1, b2, xx⟩
  rw [← hv1];clear hv1;have D := D.later8 k1;have S := (S.later k1).fresh;clear k1;have sA := S.A;refine hKz _ _ ⟨fun _ => S.A, ?_⟩;clear hKz Kz;refine Dn 10 ?_;refine Ac rfl fun Kz hKz => ?_
  have sz := S.sz;have hnl := hbx.n;refine CC CY DR 34 _ _ 59 rfl rfl w.heap.size 164 i1 (.agg #[ji 0, .bool false, ji 0, ji 0, ji 0, ji 0, ji 0, ji 0, ji 0, ji 0, ji 0, .bool false]) 96 underlying59 hi1 hz10 hz11 hz12 rfl (by decide) (by decide) (.slice x.aN x.net.length x.cN) x.net rfl S.O.n (some (ja u3.heap.size 0)) 1 [(⟨b1, false, 1, b2, xx⟩ : Wi)] rfl (fun e => by cases e) V1 (by simp; omega) sz ?_;intro vN v2 oN gN hob;replace oN : AA As 12 164 w.heap.size v2 vN (x.net ++ [(⟨b1, false, 1, b2, xx⟩ : Wi)]) := oN;obtain ⟨N_, hN_⟩ := AC (x.net ++ [(⟨b1, false, 1, b2, xx⟩ : Wi)]);rw [← hN_] at oN;replace hN_ : Hid _ := hN_;obtain ⟨aN, cN, rfl, sA, S, _⟩ := S.addN N_ vN oN gN hob;clear gN hob V1 sz oN;simp only [List.set_cons_zero, List.set_cons_succ];refine hKz _ _ ⟨fun _ => sA, ?_⟩;clear hKz Kz;refine DK 11 35 (.pointer (some (ja Q 6))) rfl rfl (fun Y hSw => by go_simp) (by assumption) ?_;simp only [List.set_cons_zero, List.set_cons_succ];refine Dn 12 ?_;refine Ac rfl fun Kz hKz => ?_
  obtain ⟨⟨q0, q1, q2, q3, q4, q5, q6, q7, q8, q9⟩, qf⟩ := id sA;have f6 := qf 6;go_simp
  clear q0 q1 q2 q3 q4 q5 q6 q7 q8 q9 qf f6;obtain ⟨v3, hv3⟩ := AC (v2.setCell (ja Q 6) (.slice aN N_.length cN));rw [← hv3] at S ⊢;clear hv3 sA;have D := D.belowB S.B hcb;refine hKz _ _ ⟨fun e => absurd rfl e, ?_⟩;clear hKz Kz;refine FD ?_;have hNl : N_.length ≤ 21 := by rw [hN_.out]; simp; omega
  clear hN_;obtain ⟨x2, hx2⟩ : ∃ x2 : AF, x2 = { x with net := N_, aN := aN, cN := cN } := ⟨_, rfl⟩;rw [← hx2] at S;have hb2 : Dy x2 := by rw [hx2]; exact ⟨hbx.t, hbx.l, hNl, hbx.g, hbx.i, hbx.s, hbx.w, hbx.r⟩
  clear hx2
 rotate_left;by_cases h3 : v = 3
 focus
  subst h3;go_upto_region 10 with fail
  obtain ⟨U, hU⟩ := AC y3;rw [← hU] at S D ⊢;clear hU;refine Fn (fun Y => AS Y Q x) 7 ?_;intro u0 hu0;change Cz _ _ _ _ _ _ _ _ _ _;have kd : Bw U u0 := by rw [hu0]; exact (Below.refl _ _).drew
  clear hu0;have D := D.later8 kd;have S := (S.later kd).fresh;clear kd;have sA := S.A;refine DK 0 38 (.pointer (some (ja Q 8))) rfl rfl (fun Y hSw => by go_simp) (by assumption) ?_;simp only [List.set_cons_zero, List.set_cons_succ];refine DK 1 39 (.slice x.aL x.ln.length x.cL) rfl rfl (fun Y hSw => by obtain ⟨⟨X0, X1, X2, X3, X4, X5, X6, X7, X8, X9⟩, _⟩ := hSw; go_simp) (by assumption) ?_;simp only [List.set_cons_zero, List.set_cons_succ];refine DK 2 40 (.pointer (some (ja cb 0))) rfl rfl (fun Y hSw => by go_simp) (by assumption) ?_;simp only [List.set_cons_zero, List.set_cons_succ];refine Dn 3 ?_;refine Ac rfl fun Kz hKz => ?_
  go_simp
  go_at_call 38
  refine (Gx u0 (D.src hs) (by have := S.sz; omega)).mono ?_;rintro e u3 ⟨xx, rfl, s_, g_, _⟩;have D := D.step s_ g_;have S := S.cur g_ hcb;clear s_ g_;have sA := S.A;refine hKz _ _ ⟨fun _ => S.A, ?_⟩;clear hKz Kz;refine Dn 4 ?_;refine Ac rfl fun Kz hKz => ?_
  go_simp
  obtain ⟨v1_, hv1, k1⟩ := AM u3 (Obj.cells (ic xx) 27);have V1 : AI AW v1_ (some (ja u3.heap.size 0)) [xx] := by rw [hv1]; exact AI.oneJ u3 _ xx
  rw [← hv1];clear hv1;have D := D.later8 k1;have S := (S.later k1).fresh;clear k1;have sA := S.A;refine hKz _ _ ⟨fun _ => S.A, ?_⟩;clear hKz Kz;refine Dn 5 ?_;refine Ac rfl fun Kz hKz => ?_
  have sz := S.sz;have hnl := hbx.i;refine CC Av FB 43 _ _ 34 rfl rfl w.heap.size 27 i3 (.agg #[ji 0, ji 0, ji 0, ji 0, ji 0, ji 0, ji 0, .bool false]) 64 underlying34 hi3 hz30 hz31 hz32 rfl (by decide) (by decide) (.slice x.aL x.ln.length x.cL) x.ln rfl S.O.i (some (ja u3.heap.size 0)) 1 [xx] rfl (fun e => by cases e) V1 (by simp; omega) sz ?_;intro vN v2 oN gN hob;replace oN : AA AW 8 27 w.heap.size v2 vN (x.ln ++ [xx]) := oN;obtain ⟨N_, hN_⟩ := AC (x.ln ++ [xx]);rw [← hN_] at oN;replace hN_ : Hid _ := hN_;obtain ⟨aN, cN, rfl, sA, S⟩ := S.addL N_ vN oN gN hob;clear gN hob V1 sz oN;simp only [List.set_cons_zero, List.set_cons_succ];refine hKz _ _ ⟨fun _ => sA, ?_⟩;clear hKz Kz;refine DK 6 44 (.pointer (some (ja Q 8))) rfl rfl (fun Y hSw => by go_simp) (by assumption) ?_;simp only [List.set_cons_zero, List.set_cons_succ];refine Dn 7 ?_;refine Ac rfl fun Kz hKz => ?_
  obtain ⟨⟨q0, q1, q2, q3, q4, q5, q6, q7, q8, q9⟩, qf⟩ := id sA;have f6 := qf 8;go_simp
  clear q0 q1 q2 q3 q4 q5 q6 q7 q8 q9 qf f6;obtain ⟨v3, hv3⟩ := AC (v2.setCell (ja Q 8) (.slice aN N_.length cN));rw [← hv3] at S ⊢;clear hv3 sA;have D := D.belowB S.B hcb;refine hKz _ _ ⟨fun e => absurd rfl e, ?_⟩;clear hKz Kz;refine FD ?_;have hNl : N_.length ≤ 61 := by rw [hN_.out]; simp; omega
  clear hN_;obtain ⟨x2, hx2⟩ : ∃ x2 : AF, x2 = { x with ln := N_, aL := aN, cL := cN } := ⟨_, rfl⟩;rw [← hx2] at S;have hb2 : Dy x2 := by rw [hx2]; exact ⟨hbx.t, hbx.l, hbx.n, hbx.g, hNl, hbx.s, hbx.w, hbx.r⟩
  clear hx2
 rotate_left;by_cases h4 : v = 4
 focus
  subst h4;obtain ⟨g, hat⟩ := S.O.g.first hga;obtain ⟨bb, hbb⟩ : ∃ b, x.ga.getD 0 false = b := ⟨_, rfl⟩;have ot := S.O.g;rw [hat] at ot;have vg := ot.cell EE false hga 0 _ rfl;have fg := ot.frozen 0;clear ot;replace hat : Hid _ := hat;simp only [Nat.zero_mul, Nat.add_zero] at vg;rw [hbb] at vg;clear hbb;obtain ⟨⟨a0, a1, a2, a3, a4, a5, a6, a7, a8, a9⟩, af⟩ := S.A;rw [hat.out] at a7;have hgb := hga;replace hga : Hid _ := hga;clear hgb;have hgl : 0 < x.ga.length := hga.out;go_upto_region 12 with fail
  go_region
  clear a0 a1 a2 a3 a4 a5 a6 a7 a8 a9 af vg fg hgl;obtain ⟨u2, hu2⟩ := AC ((y3.setCell (ja g 0) (.bool !bb)).drew);rw [← hu2];have S : Aa w.heap.size Q w.heap.size y3 u2 { x with ga := x.ga.set 0 (!bb) } := by rw [hu2]; exact (S.setG hat.out hga.out (!bb)).later (Below.refl _ _).drew
  clear hu2;have D := D.belowB S.B hcb;obtain ⟨x2, hx2⟩ : ∃ x2 : AF, x2 = { x with ga := x.ga.set 0 (!bb) } := ⟨_, rfl⟩;rw [← hx2] at S;have hb2 : Dy x2 := by rw [hx2]; exact ⟨hbx.t, hbx.l, hbx.n, by show (x.ga.set 0 (!bb)).length ≤ 4; rw [List.length_set]; exact hbx.g, hbx.i, hbx.s, hbx.w, hbx.r⟩
  clear hx2
 rotate_left;by_cases h5 : v = 5
 focus
  subst h5;obtain ⟨⟨a0, a1, a2, a3, a4, a5, a6, a7, a8, a9⟩, af⟩ := S.A;have f1 := af 1;clear a0 a1 a2 a3 a4 a5 a6 a7 a8 a9 af;go_wp2_with fail
  go_at_call 56
  refine (BD (D.src hs) 6 (by decide) (by decide)).mono ?_;rintro e u1 ⟨p_, rfl, _, _, s_, g_⟩;have D := D.step s_ g_;have S := S.cur g_ hcb;clear s_ g_ f1;obtain ⟨⟨a0, a1, a2, a3, a4, a5, a6, a7, a8, a9⟩, af⟩ := S.A;have f1 := af 1;clear af;have S := S.setP p_;obtain ⟨u2, hu2⟩ := AC (u1.setCell (ja Q 1) (ji p_));go_upto_region 15 with fail
  rw [← hu2] at S ⊢;clear hu2 a0 a1 a2 a3 a4 a5 a6 a7 a8 a9 f1;have D := D.belowB S.B hcb;obtain ⟨x2, hx2⟩ : ∃ x2 : AF, x2 = { x with po := p_ } := ⟨_, rfl⟩;rw [← hx2] at S;have hb2 : Dy x2 := by rw [hx2]; exact ⟨hbx.t, hbx.l, hbx.n, hbx.g, hbx.i, hbx.s, hbx.w, hbx.r⟩
  clear hx2
 rotate_left;have d0 : (v == 0) = false := by simpa using h0
 have d1 : (v == 1) = false := by simpa using h1
 have d2 : (v == 2) = false := by simpa using h2
 have d3 : (v == 3) = false := by simpa using h3
 have d4 : (v == 4) = false := by simpa using h4
 have d5 : (v == 5) = false := by simpa using h5
 obtain ⟨x2, hx2⟩ : ∃ x2 : AF, x2 = x := ⟨_, rfl⟩;rw [← hx2] at S hbx;have hb2 := hbx;clear hx2 h0 h1 h2 h3 h4 h5 hga hnet hlin;all_goals
  have D9 := D.put10_ x2 (Nat.le_refl _) hcb;have O9 := S.ret.1;have sZ := D9.src hs;have gZ := D9.gr;have ZB := S.Z.box;have r0 := Ad ZB;obtain ⟨⟨a0, a1, a2, a3, a4, a5, a6, a7, a8, a9⟩, _⟩ := S.A;clear S D D9;go_wp2
  refine bodyPost_ret (v := AJ x2) (by simp [AJ, results, results71, go_sem, *]) rfl ⟨x2, rfl, hb2, O9, sZ, gZ⟩
end Go.Proofs.YtjmnaeeknomiaaaGreatDoor
