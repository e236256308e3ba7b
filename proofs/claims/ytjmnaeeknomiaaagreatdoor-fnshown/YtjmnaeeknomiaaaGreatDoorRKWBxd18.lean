import Derived.Test.YtjmnaeeknomiaaaGreatDoorRM20
namespace Go.Proofs.YtjmnaeeknomiaaaGreatDoor
open Go.ChangeShapes Go.WideShapes Go.ChangeAt Go.RowKit
open Go.ChangeMaps (open_string shut_string)
set_option linter.unusedVariables false
set_option maxRecDepth 100000
set_option maxHeartbeats 32000000
set_option linter.unusedSimpArgs false
open Go.Proofs.Tryz
attribute [local go_sem] ji ja bc mc
def Cf (w W : World) (x xc : AF) : Prop := w.heap.size ≤ W.heap.size ∧ ∀ g, g < w.heap.size → Ai g x → W.heap[g]? = w.heap[g]? ∧ Ai g xc
theorem Cf.later {w W W2 : World} {x xc : AF} (h : Cf w W x xc) (k : Bw W W2) : Cf w W2 x xc :=
 ⟨Nat.le_trans h.1 k.size, fun g h1 h2 => ⟨(k.block g (Nat.lt_of_lt_of_le h1 h.1)).trans (h.2 g h1 h2).1, (h.2 g h1 h2).2⟩⟩
theorem Cf.keep {w W W2 : World} {x xc : AF} {n : Nat} (h : Cf w W x xc) (hn : w.heap.size ≤ n) (k : ∀ g, g ≠ n → W2.heap[g]? = W.heap[g]?) (hs : W.heap.size ≤ W2.heap.size := by simp [*]) : Cf w W2 x xc :=
 ⟨Nat.le_trans h.1 hs, fun g h1 h2 => ⟨(k g (by omega)).trans (h.2 g h1 h2).1, (h.2 g h1 h2).2⟩⟩
theorem Cf.setT {w W W2 : World} {x xc : AF} (h : Cf w W x xc) {g k : Nat} (hat : xc.aT = some (ja g 0)) {d : AD} (kp : ∀ k_, k_ ≠ g → W2.heap[k_]? = W.heap[k_]?) (hd : ∀ g1, g1 < w.heap.size → Ai g1 x → ∀ g_, (Value.slice d.ad d.m.lg.length d.cap).ownBlock = some g_ → g_ ≠ g1) (hs : W.heap.size ≤ W2.heap.size := by simp [*]) : Cf w W2 x (xc.setT k d) := by
 refine ⟨Nat.le_trans h.1 hs, fun g1 h1 h2 => ?_⟩;obtain ⟨e, hN⟩ := h.2 g1 h1 h2;refine ⟨(kp g1 (fun e2 => hN.t g (BP hat rfl) e2.symm)).trans e, ?_⟩;have hl : (xc.setT k d).two.length = xc.two.length := by unfold AF.setT; simp
 exact ⟨by rw [hl]; exact hN.t, hN.n, hN.g, hN.i, hN.s, EZ xc.two k d (fun y => ∀ b, (Value.slice y.ad y.m.lg.length y.cap).ownBlock = some b → b ≠ _) hN.l (hd g1 h1 h2)⟩
theorem Cf.addN {w W W2 : World} {x xc xd : AF} (h : Cf w W x xc) (hno : ∀ n, n < W.heap.size → Ai n xc → W2.heap[n]? = W.heap[n]? ∧ Ai n xd) (hs : W.heap.size ≤ W2.heap.size := by assumption) : Cf w W2 x xd :=
 ⟨Nat.le_trans h.1 hs, fun g h1 h2 => ⟨(hno g (Nat.lt_of_lt_of_le h1 h.1) (h.2 g h1 h2).2).1.trans (h.2 g h1 h2).1, (hno g (Nat.lt_of_lt_of_le h1 h.1) (h.2 g h1 h2).2).2⟩⟩
theorem Cf.ret {w W : World} {x xc : AF} {z : Nat} (h : Cf w W x xc) (hz : w.heap.size ≤ z) : Cf w ((((((((((W.setCell (ja z 0) (ji xc.id)).setCell (ja z 1) (ji xc.po)).setCell (ja z 2) (ji xc.rg.ep)).setCell (ja z 3) (ji xc.rg.ow)).setCell (ja z 4) (ji xc.rg.pa)).setCell (ja z 5) (.slice xc.aT xc.two.length xc.cT)).setCell (ja z 6) (.slice xc.aN xc.net.length xc.cN)).setCell (ja z 7) (.slice xc.aG xc.ga.length xc.cG)).setCell (ja z 8) (.slice xc.aL xc.ln.length xc.cL)).setCell (ja z 9) (.slice xc.aS xc.sd.length xc.cS)) x xc :=
 h.keep hz (fun g hg => Ak W z g xc hg) (by simp)
structure BH (w : World) (q o : Nat) (v : Value) : Prop where
 c : w.cell? (ja q o) = some v
theorem BH.keep {w w' : World} {q o : Nat} {v : Value} (h : BH w q o v) (k : w'.heap[q]? = w.heap[q]?) : BH w' q o v := ⟨(World.cell?_of_block (a := (ja q o)) k).trans h.c⟩
theorem BH.lt {w : World} {q o : Nat} {v : Value} (h : BH w q o v) : q < w.heap.size := World.block_lt_of_cell? w _ h.c
theorem BH.below {w w' : World} {q o n : Nat} {v : Value} (h : BH w q o v) (k : Below n w w') (hq : q < n) : BH w' q o v := h.keep (k.block q hq)
theorem BL.lt2 {w : World} {q o : Nat} {x : AD} (h : BL w q o x) : q < w.heap.size := World.block_lt_of_cell? w _ h.c0
structure EJ (w : World) (q : Nat) (v : Wi) : Prop where
 c0 : w.cell? (ja q 0) = some (ji v.fr)
 c1 : w.cell? (ja q 1) = some (.bool v.ak)
 c2 : w.cell? (ja q 2) = some (ji v.li)
 c3 : w.cell? (ja q 3) = some (ji v.n)
 c4 : w.cell? (ja q 4) = some (ji v.x.k)
 c5 : w.cell? (ja q 5) = some (ji v.x.q)
 c6 : w.cell? (ja q 6) = some (ji v.x.r)
 c7 : w.cell? (ja q 7) = some (ji v.x.c)
 c8 : w.cell? (ja q 8) = some (ji v.x.b)
 c9 : w.cell? (ja q 9) = some (ji v.x.p)
 c10 : w.cell? (ja q 10) = some (ji v.x.h)
 c11 : w.cell? (ja q 11) = some (.bool v.x.up)
theorem EJ.all {w : World} {q : Nat} {v : Wi} (h : EJ w q v) : w.cell? (ja q 0) = some (ji v.fr) ∧ w.cell? (ja q 1) = some (.bool v.ak) ∧ w.cell? (ja q 2) = some (ji v.li) ∧ w.cell? (ja q 3) = some (ji v.n) ∧ w.cell? (ja q 4) = some (ji v.x.k) ∧ w.cell? (ja q 5) = some (ji v.x.q) ∧ w.cell? (ja q 6) = some (ji v.x.r) ∧ w.cell? (ja q 7) = some (ji v.x.c) ∧ w.cell? (ja q 8) = some (ji v.x.b) ∧ w.cell? (ja q 9) = some (ji v.x.p) ∧ w.cell? (ja q 10) = some (ji v.x.h) ∧ w.cell? (ja q 11) = some (.bool v.x.up) := ⟨h.c0, h.c1, h.c2, h.c3, h.c4, h.c5, h.c6, h.c7, h.c8, h.c9, h.c10, h.c11⟩
theorem KH {w : World} {q : Nat} {v : Wi} (h : Cw w q 0 v) : EJ w q v := ⟨by have := h.c0; simpa using this, by have := h.c1; simpa using this, by have := h.c2; simpa using this, by have := h.c3; simpa using this, by have := h.c4; simpa using this, by have := h.c5; simpa using this, by have := h.c6; simpa using this, by have := h.c7; simpa using this, by have := h.c8; simpa using this, by have := h.c9; simpa using this, by have := h.c10; simpa using this, by have := h.c11; simpa using this⟩
theorem EJ.keep {w w' : World} {q : Nat} {v : Wi} (h : EJ w q v) (k : w'.heap[q]? = w.heap[q]?) : EJ w' q v :=
 ⟨(World.cell?_of_block (a := (ja q 0)) k).trans h.c0, (World.cell?_of_block (a := (ja q 1)) k).trans h.c1, (World.cell?_of_block (a := (ja q 2)) k).trans h.c2, (World.cell?_of_block (a := (ja q 3)) k).trans h.c3, (World.cell?_of_block (a := (ja q 4)) k).trans h.c4, (World.cell?_of_block (a := (ja q 5)) k).trans h.c5, (World.cell?_of_block (a := (ja q 6)) k).trans h.c6, (World.cell?_of_block (a := (ja q 7)) k).trans h.c7, (World.cell?_of_block (a := (ja q 8)) k).trans h.c8, (World.cell?_of_block (a := (ja q 9)) k).trans h.c9, (World.cell?_of_block (a := (ja q 10)) k).trans h.c10, (World.cell?_of_block (a := (ja q 11)) k).trans h.c11⟩
theorem EJ.lt {w : World} {q : Nat} {v : Wi} (h : EJ w q v) : q < w.heap.size := World.block_lt_of_cell? w _ h.c0
theorem EJ.below {w w' : World} {q n : Nat} {v : Wi} (h : EJ w q v) (k : Below n w w') (hq : q < n) : EJ w' q v := h.keep (k.block q hq)
theorem AQ.setAc_ {w : World} {q : Nat} {m : Mi} {v : Value} (h : AQ w q m v) (z : Int) : AQ (w.setCell (ja q 5) (ji z)) q ⟨m.up, m.li, m.ep, m.lg, m.sd, z, m.al⟩ v :=
 ⟨(AB (by decide)).trans h.c0, (AB (by decide)).trans h.c1, (AB (by decide)).trans h.c2, (AB (by decide)).trans h.c3, (AB (by decide)).trans h.c4, Al h.c5, (AB (by decide)).trans h.c6, fun i => by rw [World.frozen?_setCell]; exact h.fr i⟩
theorem AQ.setAl_ {w : World} {q : Nat} {m : Mi} {v : Value} (h : AQ w q m v) (z : Int) : AQ (w.setCell (ja q 6) (ji z)) q ⟨m.up, m.li, m.ep, m.lg, m.sd, m.ac, z⟩ v :=
 ⟨(AB (by decide)).trans h.c0, (AB (by decide)).trans h.c1, (AB (by decide)).trans h.c2, (AB (by decide)).trans h.c3, (AB (by decide)).trans h.c4, (AB (by decide)).trans h.c5, Al h.c6, fun i => by rw [World.frozen?_setCell]; exact h.fr i⟩
theorem GK (x : AF) (v : Wi) (w : World) (base : Nat) (hO : AL base w x) (hbw : base ≤ w.heap.size) (hb : BA x.p = true) (hfr : 0 ≤ v.fr ∧ v.fr ≤ 1) :
  Calls prog 161 #[.agg (bc x), .agg #[ji v.fr, .bool v.ak, ji v.li, ji v.n, ji v.x.k, ji v.x.q, ji v.x.r, ji v.x.c, ji v.x.b, ji v.x.p, ji v.x.h, .bool v.x.up]] w fun e w' => ∃ x2 : AF, e = .returned (.agg (bc x2)) ∧ x2.p = Co x.p v ∧ AL base w' x2 ∧ Below base w w' ∧ Cf w w' x x2 := by
 obtain ⟨y, hy⟩ := AC (((w.alloc (Obj.cells (bc x) 63)).alloc (Obj.cells #[ji v.fr, .bool v.ak, ji v.li, ji v.n, ji v.x.k, ji v.x.q, ji v.x.r, ji v.x.c, ji v.x.b, ji v.x.p, ji v.x.h, .bool v.x.up] 164)).alloc (Obj.cells #[ji 0, ji 0, ji 0, ji 0, ji 0, .slice none 0 0, .slice none 0 0, .slice none 0 0, .slice none 0 0, .slice none 0 0] 63));obtain ⟨S, Wd0, B0, NW⟩ := I6 x v w y hO hbw hy;have PF : Cf w y x x := ⟨B0.size, fun g_ h1 h2 => ⟨B0.block g_ h1, h2⟩⟩;have Wd := KH Wd0;obtain ⟨hl2, hmi, hnl, _, _, _⟩ := EL hb;have V := S.O.okV hb;clear hb hO Wd0;obtain ⟨j, hj⟩ : ∃ j : Nat, (1 : Int) - v.fr = (j : Int) := ⟨(1 - v.fr).toNat, by omega⟩;have hj2 : j < 2 := by omega
 have hjl : j < x.two.length := by omega
 obtain ⟨g, hat, _, gl⟩ := S.O.t.blk (by omega);obtain ⟨m, hm⟩ : ∃ m, x.two.getD j AD.nil = m := ⟨_, rfl⟩;have M0 : BL y g (j * 7) m := by have h1 := S.O.t.view.2; rw [hat] at h1; have := CZ (h1.at_ BC AD.nil hjl); rw [hm] at this; simpa using this
 have hmo : AZ x.p (1 - v.fr) = m.m := by rw [Ch, hj]; simp only [Int.toNat_natCast]; rw [hm]
 have hok : BM m.m = true := by have := hmi j hj2; rw [hm] at this; exact this
 have hlg := Ei hok;have hwr : IntKind.i64.wrap (1 - v.fr) = (j : Int) := by rw [IntKind.wrap_i64]; omega
 have hct := V.ct;have hL := S.O.l j hjl;rw [hm] at hL;have hcn := hL.capn;obtain ⟨R, hR⟩ := AC (Co x.p v);rw [← hR];replace hR : Hid _ := hR;replace hj : Hid _ := hj;replace hat : Hid _ := hat;replace hm : Hid _ := hm;replace hmo : Hid _ := hmo;replace hok : Hid _ := hok;replace hl2 : Hid _ := hl2;clear hfr hmi;obtain ⟨i1, hi1, hz10, hz11, hz12⟩ := info_parts Fs;go_enter func161, ntmps161
 go_upto_region 1 with fail
 rw [← hy];clear hy;obtain ⟨dw0, dw1, dw2, dw3, dw4, dw5, dw6, dw7, dw8, dw9, dw10, dw11⟩ := id Wd;go_upto_region 2 with fail
 clear dw0 dw1 dw2 dw3 dw4 dw5 dw6 dw7 dw8 dw9 dw10 dw11;obtain ⟨a0, a1, a2, a3, a4, a5, a6, a7, a8, a9⟩ := S.A.at_;rw [hat.out] at a5;obtain ⟨v0, v1, v2, v3, v4, v5, v6⟩ := id M0;go_upto_region 3 with fail
 clear v0 v1 v2 v3 v4 v5 v6 a0 a1 a2 a3 a4 a5 a6 a7 a8 a9 hwr;obtain ⟨u1, hu1, kq⟩ := AM y (Obj.cells (mc m.m m.ad m.cap) 54);rw [← hu1];have N : AQ u1 y.heap.size m.m (.slice m.ad m.m.lg.length m.cap) := by rw [hu1]; exact AQ.new y _ m.m _
 have NN : Ai y.heap.size x := S.O.ne (Nat.le_refl _);have nq := S.A.lt;have nd := Wd.lt;have nz := BR S.Z;clear hu1;have S := S.later kq;have PF := PF.later kq;have Wd := Wd.below kq Wd.lt;have V := V.later kq;have hL := hL.later kq;have M0 := M0.below kq gl;obtain ⟨qn, hqn⟩ := AC y.heap.size;rw [← hqn] at N NN nq nz nd gl ⊢;clear hqn kq;cases hu : m.m.up
 ·
  have hu2 := hu;replace hu : Hid _ := hu;obtain ⟨O9, B9⟩ := S.ret;have ZB := S.Z.box;obtain ⟨a0, a1, a2, a3, a4, a5, a6, a7, a8, a9⟩ := S.A.at_;obtain ⟨r0, r1, r2, r3, r4, r5, r6, r7, r8, r9, g0, g1, g2, g3, g4, g5, g6, g7, g8, g9⟩ := Ad ZB;clear S;have P9 := PF.ret (z := w.heap.size + 1 + 1) (by omega);clear PF;obtain ⟨n0, n1, n2, n3, n4, n5, n6, nf⟩ := id N;clear nf;go_wp2
  refine bodyPost_ret (v := AJ x) (by simp [AJ, results, results161, go_sem, *]) rfl ⟨x, rfl, by rw [hR.out]; unfold Co; rw [hmo.out, if_pos hu.out], O9, B9, P9⟩
 have hu2 := hu;replace hu : Hid _ := hu;obtain ⟨n0, n1, n2, n3, n4, n5, n6, nf⟩ := id N;clear nf;go_upto_region 5 with fail
 clear n0 n1 n2 n3 n4 n5 n6 hu2;cases hk : v.ak
 ·
  have hkd := hk;replace hk : Hid _ := hk;by_cases hli : v.li = m.m.li
  ·
   have dli : (v.li != m.m.li) = false := by simpa using hli
   replace hli : Hid _ := hli;by_cases he : m.m.ep = 0
   focus
    have de : (m.m.ep == 0) = true := by simpa using he
    replace he : Hid _ := he;by_cases hn : v.n = (m.m.lg.length : Int)
    ·
     have dn : (v.n == (m.m.lg.length : Int)) = true := by simpa using hn
     replace hn : Hid _ := hn;obtain ⟨dw0, dw1, dw2, dw3, dw4, dw5, dw6, dw7, dw8, dw9, dw10, dw11⟩ := id Wd;obtain ⟨n0, n1, n2, n3, n4, n5, n6, nf⟩ := id N;clear nf;go_upto_region 14 with fail
     clear hkd dli de dn;go_wp2_with fail
     go_at_call 157
     clear dw0 dw1 dw2 dw3 dw4 dw5 dw6 dw7 dw8 dw9 dw10 dw11 n0 n1 n2 n3 n4 n5 n6;refine (G2 m.m v.x m.ad m.cap u1 hL.view.2 (by omega) hcn).mono ?_;rintro e u2 ⟨a7, c7, rfl, O7, kq⟩;have sz1 := S.sz;have nl1 := N.lt;have lo7 := O7.lt;have liu := S.O.i.lt;have NEA : ∀ q, u1.heap.size ≤ q → Ai q x := fun q h => S.O.ne h
     have gu := M0.lt2;have nq1 := S.A.lt;have nz1 := BR S.Z;have S := S.later kq;have PF := PF.later kq;have Wd := Wd.below kq Wd.lt;have N := N.below kq N.lt;have M0 := M0.below kq gu;have z12 := kq.size;clear kq V;go_upto_region 15 with fail
     obtain ⟨u3, hu3, kq⟩ := AM u2 (Obj.cells #[.bool (AN m.m v.x).up, ji (AN m.m v.x).li, ji (AN m.m v.x).ep, .slice a7 (AN m.m v.x).lg.length c7, ji (AN m.m v.x).sd, ji (AN m.m v.x).ac, ji (AN m.m v.x).al] 54);rw [← hu3];have N7 : AQ u3 u2.heap.size (AN m.m v.x) (.slice a7 (AN m.m v.x).lg.length c7) := by rw [hu3]; exact AQ.new u2 _ (AN m.m v.x) _
     clear hu3;have gu2 := M0.lt2;have nl := N.lt;have S := S.later kq;have PF := PF.later kq;have N := N.below kq N.lt;have M0 := M0.below kq gu2;have O7 := O7.later kq;have z23 := kq.size;clear kq;have cA := S.A.at_.c5;rw [hat.out] at cA;obtain ⟨n0, n1, n2, n3, n4, n5, n6, nf⟩ := id N7;clear nf;obtain ⟨v0, v1, v2, v3, v4, v5, v6⟩ := id M0;have ot := S.O.t;rw [hat.out] at ot;have f0 := ot.frozen (j * 7);have f1 := ot.frozen (j * 7 + 1);have f2 := ot.frozen (j * 7 + 2);have f3 := ot.frozen (j * 7 + 3);have f4 := ot.frozen (j * 7 + 4);have f5 := ot.frozen (j * 7 + 5);have f6 := ot.frozen (j * 7 + 6);clear ot;go_upto_region 16 with fail
     clear cA n0 n1 n2 n3 n4 n5 n6 v0 v1 v2 v3 v4 v5 v6 f0 f1 f2 f3 f4 f5 f6;obtain ⟨u4, hu4⟩ := AC (((((((u3.setCell ⟨g, j * 7, none⟩ (.bool (AN m.m v.x).up)).setCell ⟨g, j * 7 + 1, none⟩ (ji (AN m.m v.x).li)).setCell ⟨g, j * 7 + 2, none⟩ (ji (AN m.m v.x).ep)).setCell ⟨g, j * 7 + 3, none⟩ (.slice a7 (AN m.m v.x).lg.length c7)).setCell ⟨g, j * 7 + 4, none⟩ (ji (AN m.m v.x).sd)).setCell ⟨g, j * 7 + 5, none⟩ (ji (AN m.m v.x).ac)).setCell ⟨g, j * 7 + 6, none⟩ (ji (AN m.m v.x).al));rw [← hu4];have kp : ∀ k_, k_ ≠ g → u4.heap[k_]? = u3.heap[k_]? := fun k_ hk_ => by rw [hu4]; exact DH (BG (⟨AN m.m v.x, a7, c7⟩ : AD)) u3 (j * 7) k_ hk_
     have N := N.keep (kp _ (by omega));have PF := PF.setT hat.out (k := j) (d := (⟨AN m.m v.x, a7, c7⟩ : AD)) kp (fun g1 h1 _ g_ e => by have := (lo7 g_ e).1; omega);have S : Aa base w.heap.size (w.heap.size + 1 + 1) w u4 (x.setT j (⟨AN m.m v.x, a7, c7⟩ : AD)) := by rw [hu4]; exact S.setT hat.out hjl (⟨AN m.m v.x, a7, c7⟩ : AD) (O7.base (by omega)) (fun g_ e e2 => by have := (lo7 g_ e).1; have := (liu g_ e2).2; omega) (fun g_ e => by have := (lo7 g_ e).1; omega)
     clear hu4;obtain ⟨xn, hxn⟩ : ∃ xn : AF, xn = x.setT j (⟨AN m.m v.x, a7, c7⟩ : AD) := ⟨_, rfl⟩;rw [← hxn] at S PF;have hnn : xn.net = x.net := by rw [hxn]; rfl
     have hnl : xn.net.length ≤ 20 := by rw [hnn]; exact hnl
     have hle : xn.two.length = x.two.length := by rw [hxn]; unfold AF.setT; simp
     have ctn : xn.two.length ≤ xn.cT := by rw [hle, hxn]; exact hct
     have hPn : Hid (xn.p = Du x.p v) := by unfold Hid Du; rw [hmo.out, if_pos ⟨he.out, hn.out⟩, hxn, AF.setT_p, hj.out]
     have hatn : Hid (xn.aT = some (ja g 0)) := by unfold Hid; rw [hxn]; exact hat.out
     have hjn : j < xn.two.length := by omega
     have NNn : Ai qn xn := by
      rw [hxn];exact ⟨by rw [show (x.setT j (⟨AN m.m v.x, a7, c7⟩ : AD)).two.length = x.two.length by unfold AF.setT; simp]; exact NN.t, NN.n, NN.g, NN.i, NN.s, EZ x.two j (⟨AN m.m v.x, a7, c7⟩ : AD) (fun y => ∀ b, (Value.slice y.ad y.m.lg.length y.cap).ownBlock = some b → b ≠ qn) NN.l (fun b e => by have := (lo7 b e).1; omega)⟩
     obtain ⟨md, hmd0⟩ := AC (⟨AN m.m v.x, a7, c7⟩ : AD);have hmd : Hid (xn.two.getD j AD.nil = md) := by unfold Hid; rw [hxn, hmd0]; unfold AF.setT; simp [List.getD, hjl]
     replace hnn : Hid _ := hnn;clear hxn hmd0 hle;have MN : BL u4 g (j * 7) md := by have h1 := S.O.t.view.2; rw [hatn.out] at h1; have := CZ (h1.at_ BC AD.nil hjn); rw [hmd.out] at this; simpa using this
     have hmdo : Hid (AZ (Du x.p v) (1 - v.fr) = md.m) := by unfold Hid; rw [← hPn.out, Ch, hj.out]; simp only [Int.toNat_natCast]; rw [hmd.out]
     by_cases h20 : xn.net.length < 20
     ·
      have d20 : decide ((xn.net.length : Int) < 20) = true := decide_eq_true (by omega);obtain ⟨a0, a1, a2, a3, a4, a5, a6, a7, a8, a9⟩ := S.A.at_;go_upto_region 17 with fail
      clear a0 a1 a2 a3 a4 a5 a6 a7 a8 a9 d20;have C5 : BH u4 w.heap.size 5 (.slice (some (ja g 0)) xn.two.length xn.cT) := ⟨by have := S.A.at_.c5; rw [hatn.out] at this; exact this⟩;have C3 : BH u4 g (j * 7 + 3) (.slice md.ad md.m.lg.length md.cap) := ⟨MN.c3⟩;have gq : g ≠ w.heap.size := S.NA.t g (by rw [hatn.out]; rfl);have aN_ : ∀ b : Nat, b = qn → (Value.slice xn.aN xn.net.length xn.cN).ownBlock ≠ some b := fun b e1 e2 => NNn.n b e2 e1
      have aT_ : (Value.slice xn.aN xn.net.length xn.cN).ownBlock ≠ some g := fun e2 => S.O.n.apart S.O.t (by decide) e2 (by rw [hatn.out]; rfl)
      have aQ_ : (Value.slice xn.aN xn.net.length xn.cN).ownBlock ≠ some w.heap.size := fun e2 => S.NA.n _ e2 rfl
      clear MN;refine An (fun Y => AQ Y qn m.m (.slice m.ad m.m.lg.length m.cap) ∧ BH Y w.heap.size 5 (.slice (some (ja g 0)) xn.two.length xn.cT) ∧ BH Y g (j * 7 + 3) (.slice md.ad md.m.lg.length md.cap)) fun r1 kd => ?_
      have S := S.later kd;have PF := PF.later kd;have N := N.below kd N.lt;have C5 := C5.below kd C5.lt;have C3 := C3.below kd C3.lt;clear kd;have hs0 : AQ r1 qn m.m (.slice m.ad m.m.lg.length m.cap) ∧ BH r1 w.heap.size 5 (.slice (some (ja g 0)) xn.two.length xn.cT) ∧ BH r1 g (j * 7 + 3) (.slice md.ad md.m.lg.length md.cap) := ⟨N, C5, C3⟩;refine tw 0 96 (.pointer (some (ja w.heap.size 6))) ?_;refine tw 2 98 (ji (j : Int)) ?_;refine tw 3 99 (.pointer (some (ja qn 1))) ?_;refine tw 4 100 (ji m.m.li) ?_ (hy := by intro Y hSw; obtain ⟨⟨X0, X1, X2, X3, X4, X5, X6, _⟩, _, _⟩ := hSw; go_simp);refine tw 5 101 (.pointer (some (ja w.heap.size 5))) ?_;refine tw 6 102 (.slice (some (ja g 0)) xn.two.length xn.cT) ?_ (hy := by intro Y hSw; obtain ⟨_, ⟨X5⟩, _⟩ := hSw; go_simp);refine tw 7 103 (ji (j : Int)) ?_;refine tw 8 104 (.pointer (some ⟨g, j * 7, none⟩)) ?_ (hy := by intro Y hSw; go_simp; try omega);refine tw 9 105 (.pointer (some ⟨g, j * 7 + 3, none⟩)) ?_;refine tw 10 106 (.slice md.ad md.m.lg.length md.cap) ?_ (hy := by intro Y hSw; obtain ⟨_, _, ⟨X3⟩⟩ := hSw; go_simp);refine tw 11 107 (ji (md.m.lg.length : Int)) ?_;refine tw 12 108 (.agg #[ji (j : Int), .bool true, ji m.m.li, ji (md.m.lg.length : Int), ji 0, ji 0, ji 0, ji 0, ji 0, ji 0, ji 0, .bool false]) ?_;clear hs0;refine wpAnyH_all (rs := [1, 13]) (by kernel_rfl) (by simp) ?_;intro i hi; rcases (by simpa using hi : i = 1 ∨ i = 13) with rfl | rfl
      focus
       refine Ac rfl fun Kz hKz => ?_
       obtain ⟨a0, a1, a2, a3, a4, a5, a6, a7, a8, a9⟩ := S.A.at_;go_simp
       clear a0 a1 a2 a3 a4 a5 a6 a7 a8 a9;refine hKz _ _ ⟨⟨N, C5, C3⟩, ?_⟩;clear hKz Kz hi;refine w1 13 fun Kz hKz => ?_
       go_simp
       obtain ⟨v1, hv1, k1⟩ := AM r1 (Obj.cells #[ji (j : Int), .bool true, ji m.m.li, ji (md.m.lg.length : Int), ji 0, ji 0, ji 0, ji 0, ji 0, ji 0, ji 0, .bool false] 164);have V1 : AI As v1 (some (ja r1.heap.size 0)) [(⟨(j : Int), true, m.m.li, (md.m.lg.length : Int), Ar⟩ : Wi)] := by rw [hv1]; exact AI.oneW r1 _ ⟨(j : Int), true, m.m.li, (md.m.lg.length : Int), Ar⟩
       have S := S.later k1;have PF := PF.later k1;have N := N.below k1 N.lt;have C5 := C5.below k1 C5.lt;have C3 := C3.below k1 C3.lt;rw [← hv1];clear hv1 k1
      rotate_left;focus
       refine Ac rfl fun Kz hKz => ?_
       go_simp
       obtain ⟨v1, hv1, k1⟩ := AM r1 (Obj.cells #[ji (j : Int), .bool true, ji m.m.li, ji (md.m.lg.length : Int), ji 0, ji 0, ji 0, ji 0, ji 0, ji 0, ji 0, .bool false] 164);have V1 : AI As v1 (some (ja r1.heap.size 0)) [(⟨(j : Int), true, m.m.li, (md.m.lg.length : Int), Ar⟩ : Wi)] := by rw [hv1]; exact AI.oneW r1 _ ⟨(j : Int), true, m.m.li, (md.m.lg.length : Int), Ar⟩
       have S := S.later k1;have PF := PF.later k1;have N := N.below k1 N.lt;have C5 := C5.below k1 C5.lt;have C3 := C3.below k1 C3.lt;rw [← hv1];clear hv1 k1;refine hKz _ _ ⟨⟨N, C5, C3⟩, ?_⟩;clear hKz Kz hi;refine w1 1 fun Kz hKz => ?_
       obtain ⟨a0, a1, a2, a3, a4, a5, a6, a7, a8, a9⟩ := S.A.at_;go_simp
       clear a0 a1 a2 a3 a4 a5 a6 a7 a8 a9
      rotate_left;all_goals
       refine hKz _ _ ⟨⟨N, C5, C3⟩, ?_⟩;clear hKz Kz;refine w1 14 fun Kz hKz => ?_
       have sz := S.sz;refine CC CY DR 110 _ _ 59 rfl rfl base 164 i1 (.agg #[ji 0, .bool false, ji 0, ji 0, ji 0, ji 0, ji 0, ji 0, ji 0, ji 0, ji 0, .bool false]) 96 underlying59 hi1 hz10 hz11 hz12 rfl (by decide) (by decide) (.slice xn.aN xn.net.length xn.cN) xn.net rfl S.O.n (some (ja r1.heap.size 0)) 1 [(⟨(j : Int), true, m.m.li, (md.m.lg.length : Int), Ar⟩ : Wi)] rfl (fun e => by cases e) V1 (by simp; omega) sz ?_;intro vN v2 oN gN hob;replace oN : AA As 12 164 base v2 vN (xn.net ++ [(⟨(j : Int), true, m.m.li, (md.m.lg.length : Int), Ar⟩ : Wi)]) := oN;obtain ⟨N_, hN_⟩ := AC (xn.net ++ [(⟨(j : Int), true, m.m.li, (md.m.lg.length : Int), Ar⟩ : Wi)]);rw [← hN_] at oN;replace hN_ : Hid _ := hN_;have N := N.keep (gN.block _ N.lt (fun e => (aN_ _ rfl) e.symm));have C5 := C5.keep (gN.block _ C5.lt (fun e => aQ_ e.symm));have C3 := C3.keep (gN.block _ C3.lt (fun e => aT_ e.symm));have szN := gN.size;obtain ⟨aN, cN, rfl, A2, S2, hno⟩ := S.addN N_ vN oN gN hob;have PF := PF.addN hno;clear gN hob V1 sz S oN hno szN;simp only [List.set_cons_zero, List.set_cons_succ];refine hKz _ _ ⟨⟨N, C5, C3⟩, ?_⟩;clear hKz Kz;have hsA : AQ v2 qn m.m (.slice m.ad m.m.lg.length m.cap) ∧ BH v2 w.heap.size 5 (.slice (some (ja g 0)) xn.two.length xn.cT) ∧ BH v2 g (j * 7 + 3) (.slice md.ad md.m.lg.length md.cap) := ⟨N, C5, C3⟩;refine tw 15 111 (.pointer (some (ja w.heap.size 6))) ?_;refine w1 16 fun Kz hKz => ?_
       obtain ⟨⟨q0, q1, q2, q3, q4, q5, q6, q7, q8, q9⟩, qf⟩ := id A2;have f6 := qf 6;go_simp
       clear q0 q1 q2 q3 q4 q5 q6 q7 q8 q9 qf f6 A2 hsA;obtain ⟨v3, hv3⟩ := AC (v2.setCell (ja w.heap.size 6) (.slice aN N_.length cN));rw [← hv3] at S2 ⊢;have PF := PF.keep (n := w.heap.size) (Nat.le_refl _) (W2 := v3) (fun g_ hg => by rw [hv3]; exact AE hg);have N := N.keep (w' := v3) (by rw [hv3]; exact AE (by show qn ≠ w.heap.size; omega));have C5 : BH v3 w.heap.size 5 (.slice (some (ja g 0)) xn.two.length xn.cT) := ⟨by rw [hv3]; exact (AB (by decide)).trans C5.c⟩;have C3 := C3.keep (w' := v3) (by rw [hv3]; exact AE gq);refine hKz _ _ ⟨⟨N, C5, C3⟩, ?_⟩;clear hKz Kz hv3;refine Ag ?_;obtain ⟨z, hz⟩ : ∃ z : AF, z = { xn with net := N_, aN := aN, cN := cN } := ⟨_, rfl⟩;rw [← hz] at S2;rw [← hz] at PF;have hP : Hid (z.p = Cr xn.p (xn.net ++ [(⟨(j : Int), true, m.m.li, (md.m.lg.length : Int), Ar⟩ : Wi)])) := by unfold Hid; rw [hz, ← hN_.out]; rfl
       clear hz;have S := S2;clear S2;have hP2 : Hid (z.p = R) := by
        unfold Hid;rw [hP.out, hPn.out, hR.out];unfold Co;rw [hmo.out, if_neg (by rw [hu.out]; decide), if_neg (by rw [hk.out]; decide), if_neg (by rw [hli.out]; exact fun h => h rfl), if_pos (by show x.net.length < 20; rw [← hnn.out]; exact h20), hmdo.out, hj.out];rw [hnn.out];rfl
       obtain ⟨O9, B9⟩ := S.ret;have ZB := S.Z.box;obtain ⟨a0, a1, a2, a3, a4, a5, a6, a7, a8, a9⟩ := S.A.at_;obtain ⟨r0, r1, r2, r3, r4, r5, r6, r7, r8, r9, g0, g1, g2, g3, g4, g5, g6, g7, g8, g9⟩ := Ad ZB;clear S;have P9 := PF.ret (z := w.heap.size + 1 + 1) (by omega);clear PF;go_wp2
       refine bodyPost_ret (v := AJ z) (by simp [AJ, results, results161, go_sem, *]) rfl ⟨z, rfl, by exact hP2.out, O9, B9, P9⟩
     ·
      have d20 : decide ((xn.net.length : Int) < 20) = false := decide_eq_false (by omega);have hP2 : Hid (xn.p = R) := by
       unfold Hid;rw [hPn.out, hR.out];unfold Co;rw [hmo.out, if_neg (by rw [hu.out]; decide), if_neg (by rw [hk.out]; decide), if_neg (by rw [hli.out]; exact fun h => h rfl), if_neg (by show ¬ x.net.length < 20; rw [← hnn.out]; exact h20)]
      obtain ⟨O9, B9⟩ := S.ret;have ZB := S.Z.box;obtain ⟨a0, a1, a2, a3, a4, a5, a6, a7, a8, a9⟩ := S.A.at_;obtain ⟨r0, r1, r2, r3, r4, r5, r6, r7, r8, r9, g0, g1, g2, g3, g4, g5, g6, g7, g8, g9⟩ := Ad ZB;clear S;have P9 := PF.ret (z := w.heap.size + 1 + 1) (by omega);clear PF;go_wp2
      refine bodyPost_ret (v := AJ xn) (by simp [AJ, results, results161, go_sem, *]) rfl ⟨xn, rfl, by exact hP2.out, O9, B9, P9⟩
    focus
     have dn : (v.n == (m.m.lg.length : Int)) = false := by simpa using hn
     replace hn : Hid (¬ v.n = (m.m.lg.length : Int)) := hn;obtain ⟨dw0, dw1, dw2, dw3, dw4, dw5, dw6, dw7, dw8, dw9, dw10, dw11⟩ := id Wd;obtain ⟨n0, n1, n2, n3, n4, n5, n6, nf⟩ := id N;clear nf;go_upto_region 16 with fail
     clear dw0 dw1 dw2 dw3 dw4 dw5 dw6 dw7 dw8 dw9 dw10 dw11 n0 n1 n2 n3 n4 n5 n6 hkd dli de dn;obtain ⟨xn, hxn⟩ : ∃ xn : AF, xn = x := ⟨_, rfl⟩;rw [← hxn] at S hm hat NN hjl;have PF : Cf w u1 x xn := by rw [hxn]; exact PF
     have hnn : xn.net = x.net := by rw [hxn]
     have hnl : xn.net.length ≤ 20 := by rw [hxn]; exact hnl
     have ctn : xn.two.length ≤ xn.cT := by rw [hxn]; exact hct
     have hPn : Hid (xn.p = Du x.p v) := by unfold Hid Du; rw [hmo.out, if_neg (fun h => hn.out h.2), hxn]
    rotate_left
   rotate_left;focus
    have de : (m.m.ep == 0) = false := by simpa using he
    replace he : Hid (¬ m.m.ep = 0) := he;obtain ⟨dw0, dw1, dw2, dw3, dw4, dw5, dw6, dw7, dw8, dw9, dw10, dw11⟩ := id Wd;obtain ⟨n0, n1, n2, n3, n4, n5, n6, nf⟩ := id N;clear nf;go_upto_region 16 with fail
    clear dw0 dw1 dw2 dw3 dw4 dw5 dw6 dw7 dw8 dw9 dw10 dw11 n0 n1 n2 n3 n4 n5 n6 hkd dli de;obtain ⟨xn, hxn⟩ : ∃ xn : AF, xn = x := ⟨_, rfl⟩;rw [← hxn] at S hm hat NN hjl;have PF : Cf w u1 x xn := by rw [hxn]; exact PF
    have hnn : xn.net = x.net := by rw [hxn]
    have hnl : xn.net.length ≤ 20 := by rw [hxn]; exact hnl
    have ctn : xn.two.length ≤ xn.cT := by rw [hxn]; exact hct
    have hPn : Hid (xn.p = Du x.p v) := by unfold Hid Du; rw [hmo.out, if_neg (fun h => he.out h.1), hxn]
   rotate_left;all_goals
    replace hnn : Hid _ := hnn;have hatn := hat;have hjn := hjl;have NNn := NN;obtain ⟨md, hmd0⟩ := AC m;have hmd : Hid (xn.two.getD j AD.nil = md) := by unfold Hid; rw [hmd0]; exact hm.out
    clear hxn hct hmd0;have MN : BL u1 g (j * 7) md := by have h1 := S.O.t.view.2; rw [hatn.out] at h1; have := CZ (h1.at_ BC AD.nil hjn); rw [hmd.out] at this; simpa using this
    have hmdo : Hid (AZ (Du x.p v) (1 - v.fr) = md.m) := by unfold Hid; rw [← hPn.out, Ch, hj.out]; simp only [Int.toNat_natCast]; rw [hmd.out]
    by_cases h20 : xn.net.length < 20
    ·
     have d20 : decide ((xn.net.length : Int) < 20) = true := decide_eq_true (by omega);obtain ⟨a0, a1, a2, a3, a4, a5, a6, a7, a8, a9⟩ := S.A.at_;go_upto_region 17 with fail
     clear a0 a1 a2 a3 a4 a5 a6 a7 a8 a9 d20;have C5 : BH u1 w.heap.size 5 (.slice (some (ja g 0)) xn.two.length xn.cT) := ⟨by have := S.A.at_.c5; rw [hatn.out] at this; exact this⟩;have C3 : BH u1 g (j * 7 + 3) (.slice md.ad md.m.lg.length md.cap) := ⟨MN.c3⟩;have gq : g ≠ w.heap.size := S.NA.t g (by rw [hatn.out]; rfl);have aN_ : ∀ b : Nat, b = qn → (Value.slice xn.aN xn.net.length xn.cN).ownBlock ≠ some b := fun b e1 e2 => NNn.n b e2 e1
     have aT_ : (Value.slice xn.aN xn.net.length xn.cN).ownBlock ≠ some g := fun e2 => S.O.n.apart S.O.t (by decide) e2 (by rw [hatn.out]; rfl)
     have aQ_ : (Value.slice xn.aN xn.net.length xn.cN).ownBlock ≠ some w.heap.size := fun e2 => S.NA.n _ e2 rfl
     clear MN;refine An (fun Y => AQ Y qn m.m (.slice m.ad m.m.lg.length m.cap) ∧ BH Y w.heap.size 5 (.slice (some (ja g 0)) xn.two.length xn.cT) ∧ BH Y g (j * 7 + 3) (.slice md.ad md.m.lg.length md.cap)) fun r1 kd => ?_
     have S := S.later kd;have PF := PF.later kd;have N := N.below kd N.lt;have C5 := C5.below kd C5.lt;have C3 := C3.below kd C3.lt;clear kd;have hs0 : AQ r1 qn m.m (.slice m.ad m.m.lg.length m.cap) ∧ BH r1 w.heap.size 5 (.slice (some (ja g 0)) xn.two.length xn.cT) ∧ BH r1 g (j * 7 + 3) (.slice md.ad md.m.lg.length md.cap) := ⟨N, C5, C3⟩;refine tw 0 96 (.pointer (some (ja w.heap.size 6))) ?_;refine tw 2 98 (ji (j : Int)) ?_;refine tw 3 99 (.pointer (some (ja qn 1))) ?_;refine tw 4 100 (ji m.m.li) ?_ (hy := by intro Y hSw; obtain ⟨⟨X0, X1, X2, X3, X4, X5, X6, _⟩, _, _⟩ := hSw; go_simp);refine tw 5 101 (.pointer (some (ja w.heap.size 5))) ?_;refine tw 6 102 (.slice (some (ja g 0)) xn.two.length xn.cT) ?_ (hy := by intro Y hSw; obtain ⟨_, ⟨X5⟩, _⟩ := hSw; go_simp);refine tw 7 103 (ji (j : Int)) ?_;refine tw 8 104 (.pointer (some ⟨g, j * 7, none⟩)) ?_ (hy := by intro Y hSw; go_simp; try omega);refine tw 9 105 (.pointer (some ⟨g, j * 7 + 3, none⟩)) ?_;refine tw 10 106 (.slice md.ad md.m.lg.length md.cap) ?_ (hy := by intro Y hSw; obtain ⟨_, _, ⟨X3⟩⟩ := hSw; go_simp);refine tw 11 107 (ji (md.m.lg.length : Int)) ?_;refine tw 12 108 (.agg #[ji (j : Int), .bool true, ji m.m.li, ji (md.m.lg.length : Int), ji 0, ji 0, ji 0, ji 0, ji 0, ji 0, ji 0, .bool false]) ?_;clear hs0;refine wpAnyH_all (rs := [1, 13]) (by kernel_rfl) (by simp) ?_;intro i hi; rcases (by simpa using hi : i = 1 ∨ i = 13) with rfl | rfl
     focus
      refine Ac rfl fun Kz hKz => ?_
      obtain ⟨a0, a1, a2, a3, a4, a5, a6, a7, a8, a9⟩ := S.A.at_;go_simp
      clear a0 a1 a2 a3 a4 a5 a6 a7 a8 a9;refine hKz _ _ ⟨⟨N, C5, C3⟩, ?_⟩;clear hKz Kz hi;refine w1 13 fun Kz hKz => ?_
      go_simp
      obtain ⟨v1, hv1, k1⟩ := AM r1 (Obj.cells #[ji (j : Int), .bool true, ji m.m.li, ji (md.m.lg.length : Int), ji 0, ji 0, ji 0, ji 0, ji 0, ji 0, ji 0, .bool false] 164);have V1 : AI As v1 (some (ja r1.heap.size 0)) [(⟨(j : Int), true, m.m.li, (md.m.lg.length : Int), Ar⟩ : Wi)] := by rw [hv1]; exact AI.oneW r1 _ ⟨(j : Int), true, m.m.li, (md.m.lg.length : Int), Ar⟩
      have S := S.later k1;have PF := PF.later k1;have N := N.below k1 N.lt;have C5 := C5.below k1 C5.lt;have C3 := C3.below k1 C3.lt;rw [← hv1];clear hv1 k1
     rotate_left;focus
      refine Ac rfl fun Kz hKz => ?_
      go_simp
      obtain ⟨v1, hv1, k1⟩ := AM r1 (Obj.cells #[ji (j : Int), .bool true, ji m.m.li, ji (md.m.lg.length : Int), ji 0, ji 0, ji 0, ji 0, ji 0, ji 0, ji 0, .bool false] 164);have V1 : AI As v1 (some (ja r1.heap.size 0)) [(⟨(j : Int), true, m.m.li, (md.m.lg.length : Int), Ar⟩ : Wi)] := by rw [hv1]; exact AI.oneW r1 _ ⟨(j : Int), true, m.m.li, (md.m.lg.length : Int), Ar⟩
      have S := S.later k1;have PF := PF.later k1;have N := N.below k1 N.lt;have C5 := C5.below k1 C5.lt;have C3 := C3.below k1 C3.lt;rw [← hv1];clear hv1 k1;refine hKz _ _ ⟨⟨N, C5, C3⟩, ?_⟩;clear hKz Kz hi;refine w1 1 fun Kz hKz => ?_
      obtain ⟨a0, a1, a2, a3, a4, a5, a6, a7, a8, a9⟩ := S.A.at_;go_simp
      clear a0 a1 a2 a3 a4 a5 a6 a7 a8 a9
     rotate_left;all_goals
      refine hKz _ _ ⟨⟨N, C5, C3⟩, ?_⟩;clear hKz Kz;refine w1 14 fun Kz hKz => ?_
      have sz := S.sz;refine CC CY DR 110 _ _ 59 rfl rfl base 164 i1 (.agg #[ji 0, .bool false, ji 0, ji 0, ji 0, ji 0, ji 0, ji 0, ji 0, ji 0, ji 0, .bool false]) 96 underlying59 hi1 hz10 hz11 hz12 rfl (by decide) (by decide) (.slice xn.aN xn.net.length xn.cN) xn.net rfl S.O.n (some (ja r1.heap.size 0)) 1 [(⟨(j : Int), true, m.m.li, (md.m.lg.length : Int), Ar⟩ : Wi)] rfl (fun e => by cases e) V1 (by simp; omega) sz ?_;intro vN v2 oN gN hob;replace oN : AA As 12 164 base v2 vN (xn.net ++ [(⟨(j : Int), true, m.m.li, (md.m.lg.length : Int), Ar⟩ : Wi)]) := oN;obtain ⟨N_, hN_⟩ := AC (xn.net ++ [(⟨(j : Int), true, m.m.li, (md.m.lg.length : Int), Ar⟩ : Wi)]);rw [← hN_] at oN;replace hN_ : Hid _ := hN_;have N := N.keep (gN.block _ N.lt (fun e => (aN_ _ rfl) e.symm));have C5 := C5.keep (gN.block _ C5.lt (fun e => aQ_ e.symm));have C3 := C3.keep (gN.block _ C3.lt (fun e => aT_ e.symm));have szN := gN.size;obtain ⟨aN, cN, rfl, A2, S2, hno⟩ := S.addN N_ vN oN gN hob;have PF := PF.addN hno;clear gN hob V1 sz S oN hno szN;simp only [List.set_cons_zero, List.set_cons_succ];refine hKz _ _ ⟨⟨N, C5, C3⟩, ?_⟩;clear hKz Kz;have hsA : AQ v2 qn m.m (.slice m.ad m.m.lg.length m.cap) ∧ BH v2 w.heap.size 5 (.slice (some (ja g 0)) xn.two.length xn.cT) ∧ BH v2 g (j * 7 + 3) (.slice md.ad md.m.lg.length md.cap) := ⟨N, C5, C3⟩;refine tw 15 111 (.pointer (some (ja w.heap.size 6))) ?_;refine w1 16 fun Kz hKz => ?_
      obtain ⟨⟨q0, q1, q2, q3, q4, q5, q6, q7, q8, q9⟩, qf⟩ := id A2;have f6 := qf 6;go_simp
      clear q0 q1 q2 q3 q4 q5 q6 q7 q8 q9 qf f6 A2 hsA;obtain ⟨v3, hv3⟩ := AC (v2.setCell (ja w.heap.size 6) (.slice aN N_.length cN));rw [← hv3] at S2 ⊢;have PF := PF.keep (n := w.heap.size) (Nat.le_refl _) (W2 := v3) (fun g_ hg => by rw [hv3]; exact AE hg);have N := N.keep (w' := v3) (by rw [hv3]; exact AE (by show qn ≠ w.heap.size; omega));have C5 : BH v3 w.heap.size 5 (.slice (some (ja g 0)) xn.two.length xn.cT) := ⟨by rw [hv3]; exact (AB (by decide)).trans C5.c⟩;have C3 := C3.keep (w' := v3) (by rw [hv3]; exact AE gq);refine hKz _ _ ⟨⟨N, C5, C3⟩, ?_⟩;clear hKz Kz hv3;refine Ag ?_;obtain ⟨z, hz⟩ : ∃ z : AF, z = { xn with net := N_, aN := aN, cN := cN } := ⟨_, rfl⟩;rw [← hz] at S2;rw [← hz] at PF;have hP : Hid (z.p = Cr xn.p (xn.net ++ [(⟨(j : Int), true, m.m.li, (md.m.lg.length : Int), Ar⟩ : Wi)])) := by unfold Hid; rw [hz, ← hN_.out]; rfl
      clear hz;have S := S2;clear S2;have hP2 : Hid (z.p = R) := by
       unfold Hid;rw [hP.out, hPn.out, hR.out];unfold Co;rw [hmo.out, if_neg (by rw [hu.out]; decide), if_neg (by rw [hk.out]; decide), if_neg (by rw [hli.out]; exact fun h => h rfl), if_pos (by show x.net.length < 20; rw [← hnn.out]; exact h20), hmdo.out, hj.out];rw [hnn.out];rfl
      obtain ⟨O9, B9⟩ := S.ret;have ZB := S.Z.box;obtain ⟨a0, a1, a2, a3, a4, a5, a6, a7, a8, a9⟩ := S.A.at_;obtain ⟨r0, r1, r2, r3, r4, r5, r6, r7, r8, r9, g0, g1, g2, g3, g4, g5, g6, g7, g8, g9⟩ := Ad ZB;clear S;have P9 := PF.ret (z := w.heap.size + 1 + 1) (by omega);clear PF;go_wp2
      refine bodyPost_ret (v := AJ z) (by simp [AJ, results, results161, go_sem, *]) rfl ⟨z, rfl, by exact hP2.out, O9, B9, P9⟩
    ·
     have d20 : decide ((xn.net.length : Int) < 20) = false := decide_eq_false (by omega);have hP2 : Hid (xn.p = R) := by
      unfold Hid;rw [hPn.out, hR.out];unfold Co;rw [hmo.out, if_neg (by rw [hu.out]; decide), if_neg (by rw [hk.out]; decide), if_neg (by rw [hli.out]; exact fun h => h rfl), if_neg (by show ¬ x.net.length < 20; rw [← hnn.out]; exact h20)]
     obtain ⟨O9, B9⟩ := S.ret;have ZB := S.Z.box;obtain ⟨a0, a1, a2, a3, a4, a5, a6, a7, a8, a9⟩ := S.A.at_;obtain ⟨r0, r1, r2, r3, r4, r5, r6, r7, r8, r9, g0, g1, g2, g3, g4, g5, g6, g7, g8, g9⟩ := Ad ZB;clear S;have P9 := PF.ret (z := w.heap.size + 1 + 1) (by omega);clear PF;go_wp2
     refine bodyPost_ret (v := AJ xn) (by simp [AJ, results, results161, go_sem, *]) rfl ⟨xn, rfl, by exact hP2.out, O9, B9, P9⟩
  have dli : (v.li != m.m.li) = true := by simpa using hli
  replace hli : Hid (¬ v.li = m.m.li) := hli;obtain ⟨O9, B9⟩ := S.ret;have ZB := S.Z.box;obtain ⟨a0, a1, a2, a3, a4, a5, a6, a7, a8, a9⟩ := S.A.at_;obtain ⟨r0, r1, r2, r3, r4, r5, r6, r7, r8, r9, g0, g1, g2, g3, g4, g5, g6, g7, g8, g9⟩ := Ad ZB;clear S;have P9 := PF.ret (z := w.heap.size + 1 + 1) (by omega);clear PF;obtain ⟨dw0, dw1, dw2, dw3, dw4, dw5, dw6, dw7, dw8, dw9, dw10, dw11⟩ := id Wd;obtain ⟨n0, n1, n2, n3, n4, n5, n6, nf⟩ := id N;clear nf;go_wp2
  refine bodyPost_ret (v := AJ x) (by simp [AJ, results, results161, go_sem, *]) rfl ⟨x, rfl, by rw [hR.out]; unfold Co; rw [hmo.out, if_neg (by rw [hu.out]; decide), if_neg (by rw [hk.out]; decide), if_pos hli.out], O9, B9, P9⟩
 have hkd := hk;replace hk : Hid _ := hk;obtain ⟨dw0, dw1, dw2, dw3, dw4, dw5, dw6, dw7, dw8, dw9, dw10, dw11⟩ := id Wd;go_upto_region 6 with fail
 clear dw0 dw1 dw2 dw3 dw4 dw5 dw6 dw7 dw8 dw9 dw10 dw11 hkd;obtain ⟨a0, a1, a2, a3, a4, a5, a6, a7, a8, a9⟩ := S.A.at_;go_wp2_with fail
 go_at_call 162
 clear a0 a1 a2 a3 a4 a5 a6 a7 a8 a9;refine (FX x (j : Int) u1 V).mono ?_;rintro e u2 ⟨rfl, kq⟩;have gu := M0.lt2;have S := S.later kq;have PF := PF.later kq;have Wd := Wd.below kq Wd.lt;have N := N.below kq N.lt;have M0 := M0.below kq gu;have hL := hL.later kq;clear kq V;have hMe : Ct x.p (1 - v.fr) = Ct x.p (j : Int) := by rw [hj.out]
 cases hM : Ct x.p (j : Int)
 ·
  rw [hM] at hMe;replace hM : Hid _ := hM;replace hMe : Hid _ := hMe;obtain ⟨O9, B9⟩ := S.ret;have ZB := S.Z.box;obtain ⟨a0, a1, a2, a3, a4, a5, a6, a7, a8, a9⟩ := S.A.at_;obtain ⟨r0, r1, r2, r3, r4, r5, r6, r7, r8, r9, g0, g1, g2, g3, g4, g5, g6, g7, g8, g9⟩ := Ad ZB;clear S;have P9 := PF.ret (z := w.heap.size + 1 + 1) (by omega);clear PF;go_wp2
  refine bodyPost_ret (v := AJ x) (by simp [AJ, results, results161, go_sem, *]) rfl ⟨x, rfl, by rw [hR.out]; unfold Co; rw [hmo.out, if_neg (by rw [hu.out]; decide), if_pos hk.out, if_neg (by rw [hMe.out]; rintro ⟨h, _⟩; cases h)], O9, B9, P9⟩
 rw [hM] at hMe;replace hM : Hid _ := hM;replace hMe : Hid _ := hMe;by_cases h1 : m.m.al < v.li
 focus
  have d1 : decide (m.m.al < v.li) = true := decide_eq_true h1;replace h1 : Hid _ := h1;obtain ⟨dw0, dw1, dw2, dw3, dw4, dw5, dw6, dw7, dw8, dw9, dw10, dw11⟩ := id Wd;obtain ⟨n0, n1, n2, n3, n4, n5, n6, nf⟩ := id N;clear nf;go_upto_region 7 with fail
  clear d1 dw0 dw1 dw2 dw3 dw4 dw5 dw6 dw7 dw8 dw9 dw10 dw11 n0 n1 n2 n3 n4 n5 n6;obtain ⟨dw0, dw1, dw2, dw3, dw4, dw5, dw6, dw7, dw8, dw9, dw10, dw11⟩ := id Wd;obtain ⟨n0, n1, n2, n3, n4, n5, n6, nf⟩ := id N;clear nf;have f6 := N.fr 6;go_upto_region 8 with fail
  clear dw0 dw1 dw2 dw3 dw4 dw5 dw6 dw7 dw8 dw9 dw10 dw11 n0 n1 n2 n3 n4 n5 n6 f6;obtain ⟨u3, hu3⟩ := AC (u2.setCell (ja qn 6) (ji v.li));rw [← hu3];have kp : ∀ g_, g_ ≠ qn → u3.heap[g_]? = u2.heap[g_]? := fun g_ hg => by rw [hu3]; exact AE hg
  have N := N.setAl_ v.li;rw [← hu3] at N;have PF := PF.keep (n := qn) (by omega) kp;have S := S.keepN NN (by omega) (by omega) kp (by rw [hu3]; exact S.B.setCell (p := (ja qn 6)) (by show base ≤ qn; have := S.sz; omega) _);have Wd := Wd.keep (kp _ (by omega));have M0 := M0.keep (kp _ (by omega));have hL := hL.keep (fun g_ e => kp g_ (NN.l j hjl g_ (by rw [hm.out]; exact e)));clear hu3 kp;obtain ⟨dw0, dw1, dw2, dw3, dw4, dw5, dw6, dw7, dw8, dw9, dw10, dw11⟩ := id Wd;obtain ⟨n0, n1, n2, n3, n4, n5, n6, nf⟩ := id N;clear nf;go_wp2_with fail
  go_at_call 117
  clear dw0 dw1 dw2 dw3 dw4 dw5 dw6 dw7 dw8 dw9 dw10 dw11 n0 n1 n2 n3 n4 n5 n6;refine (GR v.n (m.m.lg.length : Int) u3).mono ?_;rintro e u9 ⟨rfl, hw_⟩;rw [hw_];clear hw_ u9;obtain ⟨mn, hmn⟩ : ∃ t : Int, t = if v.n < (m.m.lg.length : Int) then v.n else (m.m.lg.length : Int) := ⟨_, rfl⟩
  rw [← hmn];have hmn2 : mn = min v.n (m.m.lg.length : Int) := by rw [hmn]; split <;> omega
  clear hmn;replace hmn2 : Hid _ := hmn2;obtain ⟨n0, n1, n2, n3, n4, n5, n6, nf⟩ := id N;clear nf;have f5 := N.fr 5;go_upto_region 9 with fail
  clear n0 n1 n2 n3 n4 n5 n6 f5;obtain ⟨u4, hu4⟩ := AC (u3.setCell (ja qn 5) (ji mn));rw [← hu4];have kp : ∀ g_, g_ ≠ qn → u4.heap[g_]? = u3.heap[g_]? := fun g_ hg => by rw [hu4]; exact AE hg
  have N := N.setAc_ mn;rw [← hu4] at N;have PF := PF.keep (n := qn) (by omega) kp;have S := S.keepN NN (by omega) (by omega) kp (by rw [hu4]; exact S.B.setCell (p := (ja qn 5)) (by show base ≤ qn; have := S.sz; omega) _);have M0 := M0.keep (kp _ (by omega));have hL := hL.keep (fun g_ e => kp g_ (NN.l j hjl g_ (by rw [hm.out]; exact e)));clear hu4 kp;have cA := S.A.at_.c5;rw [hat.out] at cA;obtain ⟨n0, n1, n2, n3, n4, n5, n6, nf⟩ := id N;clear nf;obtain ⟨v0, v1, v2, v3, v4, v5, v6⟩ := id M0;have ot := S.O.t;rw [hat.out] at ot;have f0 := ot.frozen (j * 7);have f1 := ot.frozen (j * 7 + 1);have f2 := ot.frozen (j * 7 + 2);have f3 := ot.frozen (j * 7 + 3);have f4 := ot.frozen (j * 7 + 4);have f5 := ot.frozen (j * 7 + 5);have f6 := ot.frozen (j * 7 + 6);clear ot;go_upto_region 10 with fail
  clear cA n0 n1 n2 n3 n4 n5 n6 v0 v1 v2 v3 v4 v5 v6 f0 f1 f2 f3 f4 f5 f6;obtain ⟨u5, hu5⟩ := AC (((((((u4.setCell ⟨g, j * 7, none⟩ (.bool m.m.up)).setCell ⟨g, j * 7 + 1, none⟩ (ji m.m.li)).setCell ⟨g, j * 7 + 2, none⟩ (ji m.m.ep)).setCell ⟨g, j * 7 + 3, none⟩ (.slice m.ad m.m.lg.length m.cap)).setCell ⟨g, j * 7 + 4, none⟩ (ji m.m.sd)).setCell ⟨g, j * 7 + 5, none⟩ (ji mn)).setCell ⟨g, j * 7 + 6, none⟩ (ji v.li));rw [← hu5];have kp : ∀ k_, k_ ≠ g → u5.heap[k_]? = u4.heap[k_]? := fun k_ hk_ => by rw [hu5]; exact DH (BG (⟨⟨m.m.up, m.m.li, m.m.ep, m.m.lg, m.m.sd, mn, v.li⟩, m.ad, m.cap⟩ : AD)) u4 (j * 7) k_ hk_
  have PF := PF.setT hat.out (k := j) (d := (⟨⟨m.m.up, m.m.li, m.m.ep, m.m.lg, m.m.sd, mn, v.li⟩, m.ad, m.cap⟩ : AD)) kp (fun g1 _ h2 g_ e => h2.l j hjl g_ (by rw [hm.out]; exact e));have S : Aa base w.heap.size (w.heap.size + 1 + 1) w u5 (x.setT j (⟨⟨m.m.up, m.m.li, m.m.ep, m.m.lg, m.m.sd, mn, v.li⟩, m.ad, m.cap⟩ : AD)) := by rw [hu5]; exact S.setT hat.out hjl (⟨⟨m.m.up, m.m.li, m.m.ep, m.m.lg, m.m.sd, mn, v.li⟩, m.ad, m.cap⟩ : AD) hL (fun g_ e => S.O.ap j hjl g_ (by rw [hm.out]; exact e)) (fun g_ e => ⟨S.NA.l j hjl g_ (by rw [hm.out]; exact e), S.NZ.l j hjl g_ (by rw [hm.out]; exact e)⟩)
  clear hu5;obtain ⟨z, hz⟩ : ∃ z : AF, z = x.setT j (⟨⟨m.m.up, m.m.li, m.m.ep, m.m.lg, m.m.sd, mn, v.li⟩, m.ad, m.cap⟩ : AD) := ⟨_, rfl⟩;rw [← hz] at S PF;have hP : Hid (z.p = R) := by
   unfold Hid;rw [hz, AF.setT_p, hR.out];unfold Co;rw [hmo.out, if_neg (by rw [hu.out]; decide), if_pos hk.out, if_pos ⟨hMe.out, Or.inl h1.out⟩];unfold G9;rw [← hmn2.out, hj.out]
 rotate_left;focus
  have d1 : decide (m.m.al < v.li) = false := decide_eq_false h1;by_cases h2 : v.li = m.m.al
  focus
   have d2 : (v.li == m.m.al) = true := by simpa using h2
   by_cases h3 : m.m.ac < v.n
   focus
    have d3 : decide (m.m.ac < v.n) = true := decide_eq_true h3;replace h1 : Hid (¬ m.m.al < v.li) := h1;replace h2 : Hid _ := h2;replace h3 : Hid _ := h3;obtain ⟨dw0, dw1, dw2, dw3, dw4, dw5, dw6, dw7, dw8, dw9, dw10, dw11⟩ := id Wd;obtain ⟨n0, n1, n2, n3, n4, n5, n6, nf⟩ := id N;clear nf;go_upto_region 7 with fail
    clear d1 d2 d3 dw0 dw1 dw2 dw3 dw4 dw5 dw6 dw7 dw8 dw9 dw10 dw11 n0 n1 n2 n3 n4 n5 n6;obtain ⟨dw0, dw1, dw2, dw3, dw4, dw5, dw6, dw7, dw8, dw9, dw10, dw11⟩ := id Wd;obtain ⟨n0, n1, n2, n3, n4, n5, n6, nf⟩ := id N;clear nf;have f6 := N.fr 6;go_upto_region 8 with fail
    clear dw0 dw1 dw2 dw3 dw4 dw5 dw6 dw7 dw8 dw9 dw10 dw11 n0 n1 n2 n3 n4 n5 n6 f6;obtain ⟨u3, hu3⟩ := AC (u2.setCell (ja qn 6) (ji v.li));rw [← hu3];have kp : ∀ g_, g_ ≠ qn → u3.heap[g_]? = u2.heap[g_]? := fun g_ hg => by rw [hu3]; exact AE hg
    have N := N.setAl_ v.li;rw [← hu3] at N;have PF := PF.keep (n := qn) (by omega) kp;have S := S.keepN NN (by omega) (by omega) kp (by rw [hu3]; exact S.B.setCell (p := (ja qn 6)) (by show base ≤ qn; have := S.sz; omega) _);have Wd := Wd.keep (kp _ (by omega));have M0 := M0.keep (kp _ (by omega));have hL := hL.keep (fun g_ e => kp g_ (NN.l j hjl g_ (by rw [hm.out]; exact e)));clear hu3 kp;obtain ⟨dw0, dw1, dw2, dw3, dw4, dw5, dw6, dw7, dw8, dw9, dw10, dw11⟩ := id Wd;obtain ⟨n0, n1, n2, n3, n4, n5, n6, nf⟩ := id N;clear nf;go_wp2_with fail
    go_at_call 117
    clear dw0 dw1 dw2 dw3 dw4 dw5 dw6 dw7 dw8 dw9 dw10 dw11 n0 n1 n2 n3 n4 n5 n6;refine (GR v.n (m.m.lg.length : Int) u3).mono ?_;rintro e u9 ⟨rfl, hw_⟩;rw [hw_];clear hw_ u9;obtain ⟨mn, hmn⟩ : ∃ t : Int, t = if v.n < (m.m.lg.length : Int) then v.n else (m.m.lg.length : Int) := ⟨_, rfl⟩
    rw [← hmn];have hmn2 : mn = min v.n (m.m.lg.length : Int) := by rw [hmn]; split <;> omega
    clear hmn;replace hmn2 : Hid _ := hmn2;obtain ⟨n0, n1, n2, n3, n4, n5, n6, nf⟩ := id N;clear nf;have f5 := N.fr 5;go_upto_region 9 with fail
    clear n0 n1 n2 n3 n4 n5 n6 f5;obtain ⟨u4, hu4⟩ := AC (u3.setCell (ja qn 5) (ji mn));rw [← hu4];have kp : ∀ g_, g_ ≠ qn → u4.heap[g_]? = u3.heap[g_]? := fun g_ hg => by rw [hu4]; exact AE hg
    have N := N.setAc_ mn;rw [← hu4] at N;have PF := PF.keep (n := qn) (by omega) kp;have S := S.keepN NN (by omega) (by omega) kp (by rw [hu4]; exact S.B.setCell (p := (ja qn 5)) (by show base ≤ qn; have := S.sz; omega) _);have M0 := M0.keep (kp _ (by omega));have hL := hL.keep (fun g_ e => kp g_ (NN.l j hjl g_ (by rw [hm.out]; exact e)));clear hu4 kp;have cA := S.A.at_.c5;rw [hat.out] at cA;obtain ⟨n0, n1, n2, n3, n4, n5, n6, nf⟩ := id N;clear nf;obtain ⟨v0, v1, v2, v3, v4, v5, v6⟩ := id M0;have ot := S.O.t;rw [hat.out] at ot;have f0 := ot.frozen (j * 7);have f1 := ot.frozen (j * 7 + 1);have f2 := ot.frozen (j * 7 + 2);have f3 := ot.frozen (j * 7 + 3);have f4 := ot.frozen (j * 7 + 4);have f5 := ot.frozen (j * 7 + 5);have f6 := ot.frozen (j * 7 + 6);clear ot;go_upto_region 10 with fail
    clear cA n0 n1 n2 n3 n4 n5 n6 v0 v1 v2 v3 v4 v5 v6 f0 f1 f2 f3 f4 f5 f6;obtain ⟨u5, hu5⟩ := AC (((((((u4.setCell ⟨g, j * 7, none⟩ (.bool m.m.up)).setCell ⟨g, j * 7 + 1, none⟩ (ji m.m.li)).setCell ⟨g, j * 7 + 2, none⟩ (ji m.m.ep)).setCell ⟨g, j * 7 + 3, none⟩ (.slice m.ad m.m.lg.length m.cap)).setCell ⟨g, j * 7 + 4, none⟩ (ji m.m.sd)).setCell ⟨g, j * 7 + 5, none⟩ (ji mn)).setCell ⟨g, j * 7 + 6, none⟩ (ji v.li));rw [← hu5];have kp : ∀ k_, k_ ≠ g → u5.heap[k_]? = u4.heap[k_]? := fun k_ hk_ => by rw [hu5]; exact DH (BG (⟨⟨m.m.up, m.m.li, m.m.ep, m.m.lg, m.m.sd, mn, v.li⟩, m.ad, m.cap⟩ : AD)) u4 (j * 7) k_ hk_
    have PF := PF.setT hat.out (k := j) (d := (⟨⟨m.m.up, m.m.li, m.m.ep, m.m.lg, m.m.sd, mn, v.li⟩, m.ad, m.cap⟩ : AD)) kp (fun g1 _ h2 g_ e => h2.l j hjl g_ (by rw [hm.out]; exact e));have S : Aa base w.heap.size (w.heap.size + 1 + 1) w u5 (x.setT j (⟨⟨m.m.up, m.m.li, m.m.ep, m.m.lg, m.m.sd, mn, v.li⟩, m.ad, m.cap⟩ : AD)) := by rw [hu5]; exact S.setT hat.out hjl (⟨⟨m.m.up, m.m.li, m.m.ep, m.m.lg, m.m.sd, mn, v.li⟩, m.ad, m.cap⟩ : AD) hL (fun g_ e => S.O.ap j hjl g_ (by rw [hm.out]; exact e)) (fun g_ e => ⟨S.NA.l j hjl g_ (by rw [hm.out]; exact e), S.NZ.l j hjl g_ (by rw [hm.out]; exact e)⟩)
    clear hu5;obtain ⟨z, hz⟩ : ∃ z : AF, z = x.setT j (⟨⟨m.m.up, m.m.li, m.m.ep, m.m.lg, m.m.sd, mn, v.li⟩, m.ad, m.cap⟩ : AD) := ⟨_, rfl⟩;rw [← hz] at S PF;have hP : Hid (z.p = R) := by
     unfold Hid;rw [hz, AF.setT_p, hR.out];unfold Co;rw [hmo.out, if_neg (by rw [hu.out]; decide), if_pos hk.out, if_pos ⟨hMe.out, Or.inr ⟨h2.out, h3.out⟩⟩];unfold G9;rw [← hmn2.out, hj.out]
   rotate_left
   ·
    have d3 : decide (m.m.ac < v.n) = false := decide_eq_false h3;replace h1 : Hid (¬ m.m.al < v.li) := h1;replace h2 : Hid _ := h2;replace h3 : Hid (¬ m.m.ac < v.n) := h3;obtain ⟨dw0, dw1, dw2, dw3, dw4, dw5, dw6, dw7, dw8, dw9, dw10, dw11⟩ := id Wd;obtain ⟨n0, n1, n2, n3, n4, n5, n6, nf⟩ := id N;clear nf;obtain ⟨O9, B9⟩ := S.ret;have ZB := S.Z.box;obtain ⟨a0, a1, a2, a3, a4, a5, a6, a7, a8, a9⟩ := S.A.at_;obtain ⟨r0, r1, r2, r3, r4, r5, r6, r7, r8, r9, g0, g1, g2, g3, g4, g5, g6, g7, g8, g9⟩ := Ad ZB;clear S;have P9 := PF.ret (z := w.heap.size + 1 + 1) (by omega);clear PF;go_wp2
    refine bodyPost_ret (v := AJ x) (by simp [AJ, results, results161, go_sem, *]) rfl ⟨x, rfl, by rw [hR.out]; unfold Co; rw [hmo.out, if_neg (by rw [hu.out]; decide), if_pos hk.out, if_neg (by have e1 := h1.out; have e3 := h3.out; rintro ⟨_, h | h⟩ <;> omega)], O9, B9, P9⟩
  rotate_left
  ·
   have d2 : (v.li == m.m.al) = false := by simpa using h2
   replace h1 : Hid (¬ m.m.al < v.li) := h1;replace h2 : Hid (¬ v.li = m.m.al) := h2;obtain ⟨dw0, dw1, dw2, dw3, dw4, dw5, dw6, dw7, dw8, dw9, dw10, dw11⟩ := id Wd;obtain ⟨n0, n1, n2, n3, n4, n5, n6, nf⟩ := id N;clear nf;obtain ⟨O9, B9⟩ := S.ret;have ZB := S.Z.box;obtain ⟨a0, a1, a2, a3, a4, a5, a6, a7, a8, a9⟩ := S.A.at_;obtain ⟨r0, r1, r2, r3, r4, r5, r6, r7, r8, r9, g0, g1, g2, g3, g4, g5, g6, g7, g8, g9⟩ := Ad ZB;clear S;have P9 := PF.ret (z := w.heap.size + 1 + 1) (by omega);clear PF;go_wp2
   refine bodyPost_ret (v := AJ x) (by simp [AJ, results, results161, go_sem, *]) rfl ⟨x, rfl, by rw [hR.out]; unfold Co; rw [hmo.out, if_neg (by rw [hu.out]; decide), if_pos hk.out, if_neg (by have e1 := h1.out; have e2 := h2.out; rintro ⟨_, h | h⟩ <;> omega)], O9, B9, P9⟩
 rotate_left;all_goals
  clear hz;obtain ⟨O9, B9⟩ := S.ret;have ZB := S.Z.box;obtain ⟨a0, a1, a2, a3, a4, a5, a6, a7, a8, a9⟩ := S.A.at_;obtain ⟨r0, r1, r2, r3, r4, r5, r6, r7, r8, r9, g0, g1, g2, g3, g4, g5, g6, g7, g8, g9⟩ := Ad ZB;clear S;have P9 := PF.ret (z := w.heap.size + 1 + 1) (by omega);clear PF;go_wp2
  refine bodyPost_ret (v := AJ z) (by simp [AJ, results, results161, go_sem, *]) rfl ⟨z, rfl, by exact hP.out, O9, B9, P9⟩
end Go.Proofs.YtjmnaeeknomiaaaGreatDoor
