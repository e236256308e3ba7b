import Derived.Test.YtjmnaeeknomiaaaGreatDoorRKWBxd3
import Derived.Test.YtjmnaeeknomiaaaGreatDoorRM18
import Derived.Test.YtjmnaeeknomiaaaGreatDoorRM14
namespace Go.Proofs.YtjmnaeeknomiaaaGreatDoor
open Go.ChangeShapes Go.WideShapes Go.ChangeAt Go.RowKit
open Go.ChangeMaps (open_string shut_string)
set_option linter.unusedVariables false
set_option maxRecDepth 100000
set_option maxHeartbeats 32000000
set_option linter.unusedSimpArgs false
open Go.Proofs.Tryz
attribute [local go_sem] ji ja bc
theorem BL.below {w w' : World} {q o n : Nat} {x : AD} (h : BL w q o x) (k : Below n w w') (hq : q < n) : BL w' q o x :=
 ⟨(World.cell?_of_block (a := (ja q o)) (k.block q hq)).trans h.c0, (World.cell?_of_block (a := ⟨q, o + 1, none⟩) (k.block q hq)).trans h.c1, (World.cell?_of_block (a := ⟨q, o + 2, none⟩) (k.block q hq)).trans h.c2, (World.cell?_of_block (a := ⟨q, o + 3, none⟩) (k.block q hq)).trans h.c3, (World.cell?_of_block (a := ⟨q, o + 4, none⟩) (k.block q hq)).trans h.c4, (World.cell?_of_block (a := ⟨q, o + 5, none⟩) (k.block q hq)).trans h.c5, (World.cell?_of_block (a := ⟨q, o + 6, none⟩) (k.block q hq)).trans h.c6⟩
theorem LY (n : Nat) : (true && (true && (true && (true && (true && (true && decide (n ≤ 40))))))) = decide ((n : Int) ≤ 40) := by
 by_cases h : n ≤ 40
 ·
  rw [decide_eq_true h, decide_eq_true (show (n : Int) ≤ 40 by omega)]; rfl
 rw [decide_eq_false h, decide_eq_false (show ¬ (n : Int) ≤ 40 by omega)]; rfl
theorem IR (x : AF) (w : World) (hV : Ck w x) :
  Calls prog 136 #[.agg (bc x)] w fun e w' => e = .returned (.bool (BA x.p)) ∧ Bw w w' := by
 obtain ⟨R, hR⟩ := AC (BA x.p);rw [← hR];replace hR : Hid _ := hR;obtain ⟨y, hy, B0⟩ := AM w (Obj.cells (bc x) 63);have A : Af y w.heap.size x := by rw [hy]; exact Af.new w _ x
 have V := hV.later B0;go_enter func136, ntmps136
 have a0 := A.all;go_wp2_with fail
 go_at_call 96
 rw [← hy];clear a0 hy hV;refine (GM x.id x.po y).mono ?_;rintro e u1 ⟨ab, cb, rfl, _, k1⟩;have A := A.below k1 A.lt;have V := V.later k1;have B1 := AG B0 k1;clear k1 B0;obtain ⟨u2, hu2, k2⟩ := AM u1 (Obj.cells #[ji (Bp x.id x.po), .slice ab (Ao x.id x.po).length cb] 51);have A := A.below k2 A.lt;have V := V.later k2;have B2 := AG B1 k2;go_upto_region 2 with fail
 rw [← hu2];clear hu2 k2 B1;cases h1 : Au x.id x.po
 ·
  have hN : Hid (R = false) := by unfold Hid; rw [hR.out]; unfold BA; rw [show Au x.p.id x.p.po = _ from h1]; rfl
  go_wp2
  go_ret
  exact ⟨by rw [hN.out]; rfl, B2⟩
 replace h1 : Hid _ := h1;have a0 := A.all;go_wp2_with fail
 go_at_call 148
 clear a0;refine (GJ x.rg u2).mono ?_;rintro e u3 ⟨rfl, k3⟩;have A := A.below k3 A.lt;have V := V.later k3;have B3 := AG B2 k3;clear k3 B2;cases h2 : CB x.rg
 ·
  have hN : Hid (R = false) := by unfold Hid; rw [hR.out]; unfold BA; rw [show Au x.p.id x.p.po = _ from h1.out, show CB x.p.rg = _ from h2]; rfl
  clear h2;go_wp2
  go_ret
  exact ⟨by rw [hN.out]; rfl, B3⟩
 replace h2 : Hid _ := h2;by_cases h3 : x.two.length = 2
 ·
  have d3 : ((x.two.length : Int) != 2) = false := by rw [bne_eq_false_iff_eq]; omega
  have h3' : Hid (decide (x.two.length = 2) = true) := decide_eq_true h3;replace h3 : Hid (decide (x.p.two.length = 2) = true) := decide_eq_true (by rw [Fz]; exact of_decide_eq_true h3'.out);have h3n : 1 < x.two.length := by have := of_decide_eq_true h3'.out; omega
  clear h3';obtain ⟨d, hd⟩ : ∃ d, x.two.getD 0 AD.nil = d := ⟨_, rfl⟩;obtain ⟨d2, hd2⟩ : ∃ d, x.two.getD 1 AD.nil = d := ⟨_, rfl⟩;have vl1 := V.l 0 (by omega);have vl2 := V.l 1 h3n;have ll1 := V.bl 0 (by omega);have ll2 := V.bl 1 h3n;rw [hd] at vl1 ll1;rw [hd2] at vl2 ll2;have m0 : Hid (AZ x.p 0 = d.m) := by unfold Hid; rw [Ch]; show (x.two.getD 0 AD.nil).m = _; rw [hd]
  have m1 : Hid (AZ x.p 1 = d2.m) := by unfold Hid; rw [Ch]; show (x.two.getD 1 AD.nil).m = _; rw [hd2]
  obtain ⟨b, off, hat, _⟩ := V.t (by omega);have hc0 : BL u3 b off d := by have ht := V.t; rw [hat] at ht; have := CZ (ht.at_ BC AD.nil (show 0 < x.two.length by omega)); rw [hd, Nat.zero_mul, Nat.add_zero] at this; exact this
  have hc1 : BL u3 b (off + 7) d2 := by have ht := V.t; rw [hat] at ht; have := CZ (ht.at_ BC AD.nil h3n); rw [hd2, Nat.one_mul] at this; exact this
  have hbl : b < u3.heap.size := World.block_lt_of_cell? _ _ hc0.c0;replace hat : Hid _ := hat;replace hd : Hid _ := hd;replace hd2 : Hid _ := hd2;obtain ⟨a0, a1, a2, a3, a4, a5, a6, a7, a8, a9⟩ := id A;rw [hat.out] at a5;have e0 := hc0.all;go_wp2_with fail
  go_at_call 149
  clear e0 a0 a1 a2 a3 a4 a5 a6 a7 a8 a9 d3;refine (Fc d.m d.ad d.cap u3 vl1 (by omega)).mono ?_;rintro e u5 ⟨rfl, k5⟩;have vl2 := vl2.below k5 (vl2.lt Av (by omega));have hc1 : BL u5 b (off + 7) d2 := hc1.below k5 hbl;have A := A.below k5 A.lt;have V := V.later k5;have B5 := AG B3 k5;clear k5 B3;cases h4 : BM d.m
  ·
   have hN : Hid (R = false) := by unfold Hid; rw [hR.out]; unfold BA; rw [show Au x.p.id x.p.po = _ from h1.out, show CB x.p.rg = _ from h2.out, h3.out, show BM (AZ x.p 0) = false by rw [m0.out]; exact h4]; rfl
   clear h4;go_wp2
   go_ret
   exact ⟨by rw [hN.out]; rfl, B5⟩
  replace h4 : Hid (BM (AZ x.p 0) = true) := by unfold Hid; rw [m0.out]; exact h4
  obtain ⟨a0, a1, a2, a3, a4, a5, a6, a7, a8, a9⟩ := id A;rw [hat.out] at a5;have e0 := hc1.all;go_wp2_with fail
  go_at_call 149
  clear e0 a0 a1 a2 a3 a4 a5 a6 a7 a8 a9;refine (Fc d2.m d2.ad d2.cap u5 vl2 (by omega)).mono ?_;rintro e u6 ⟨rfl, k6⟩;have A := A.below k6 A.lt;have V := V.later k6;have B6 := AG B5 k6;clear k6 B5;cases h5 : BM d2.m
  ·
   have hN : Hid (R = false) := by unfold Hid; rw [hR.out]; unfold BA; rw [show Au x.p.id x.p.po = _ from h1.out, show CB x.p.rg = _ from h2.out, h3.out, h4.out, show BM (AZ x.p 1) = false by rw [m1.out]; exact h5]; rfl
   clear h5;go_wp2
   go_ret
   exact ⟨by rw [hN.out]; rfl, B6⟩
  replace h5 : Hid (BM (AZ x.p 1) = true) := by unfold Hid; rw [m1.out]; exact h5
  have a0 := A.all;go_wp2_with fail
  go_at_call 150
  clear a0;refine (Lh x u6 V).mono ?_;rintro e u7 ⟨rfl, k7⟩;have A := A.below k7 A.lt;have V := V.later k7;have B7 := AG B6 k7;clear k7 B6;cases h6 : x.net.all Bl && decide (x.net.length ≤ 20)
  ·
   have h6' : (x.p.net.all Bl && (decide (x.p.net.length ≤ 20) && (decide ((x.p.ga.length : Int) = x.p.po) && (DN x.p.ln && decide (x.p.sd.length ≤ 40))))) = false := by rw [← Bool.and_assoc, show (x.p.net.all Bl && decide (x.p.net.length ≤ 20)) = false from h6]; rfl
   have hN : Hid (R = false) := by unfold Hid; rw [hR.out]; unfold BA; rw [show Au x.p.id x.p.po = _ from h1.out, show CB x.p.rg = _ from h2.out, show decide (x.p.two.length = 2) = _ from h3.out, h4.out, h5.out, h6']; rfl
   clear h6 h6';go_wp2
   go_ret
   exact ⟨by rw [hN.out]; rfl, B7⟩
  replace h6 : Hid _ := h6;have h6' : Hid (∀ t, (x.p.net.all Bl && (decide (x.p.net.length ≤ 20) && t)) = t) := fun t => by rw [← Bool.and_assoc, show (x.p.net.all Bl && decide (x.p.net.length ≤ 20)) = true from h6.out]; rfl
  by_cases h7 : (x.ga.length : Int) = x.po
  ·
   have d7 : ((x.ga.length : Int) == x.po) = true := by simpa using h7
   have h7' : Hid (decide ((x.p.ga.length : Int) = x.p.po) = true) := decide_eq_true h7;replace h7 : Hid _ := h7;have a0 := A.all;go_wp2_with fail
   go_at_call 151
   clear a0;refine (Ir x.aL x.cL x.ln u7 V.i (by have := V.bi; omega)).mono ?_;rintro e u8 ⟨rfl, k8⟩;have bs := V.bs;have A := A.below k8 A.lt;have V := V.later k8;have B8 := AG B7 k8;clear k8 B7;cases h8 : DN x.ln
   ·
    have hN : Hid (R = false) := by unfold Hid; rw [hR.out]; unfold BA; rw [show Au x.p.id x.p.po = _ from h1.out, show CB x.p.rg = _ from h2.out, show decide (x.p.two.length = 2) = _ from h3.out, h4.out, h5.out, h6'.out, h7'.out, show DN x.p.ln = _ from h8]; rfl
    clear h8;go_wp2
    go_ret
    exact ⟨by rw [hN.out]; rfl, B8⟩
   replace h8 : Hid _ := h8;have a0 := A.all;have hN : Hid (R = decide ((x.sd.length : Int) ≤ 40)) := by unfold Hid; rw [hR.out]; unfold BA; rw [show Au x.p.id x.p.po = _ from h1.out, show CB x.p.rg = _ from h2.out, show decide (x.p.two.length = 2) = _ from h3.out, h4.out, h5.out, h6'.out, h7'.out, show DN x.p.ln = _ from h8.out]; exact LY x.sd.length
   go_wp2
   go_ret
   exact ⟨by rw [hN.out]; rfl, B8⟩
  have d7 : ((x.ga.length : Int) == x.po) = false := by rw [beq_eq_false_iff_ne]; exact h7
  have a0 := A.all;have hN : Hid (R = false) := by unfold Hid; rw [hR.out]; unfold BA; rw [show Au x.p.id x.p.po = _ from h1.out, show CB x.p.rg = _ from h2.out, show decide (x.p.two.length = 2) = _ from h3.out, h4.out, h5.out, h6'.out, show decide ((x.p.ga.length : Int) = x.p.po) = false from decide_eq_false h7]; rfl
  clear h7;go_wp2
  go_ret
  exact ⟨by rw [hN.out]; rfl, B7⟩
 have d3 : ((x.two.length : Int) != 2) = true := by rw [bne_iff_ne]; omega
 have a0 := A.all;have hN : Hid (R = false) := by unfold Hid; rw [hR.out]; unfold BA; rw [show Au x.p.id x.p.po = _ from h1.out, show CB x.p.rg = _ from h2.out, show decide (x.p.two.length = 2) = false from decide_eq_false (by rw [Fz]; exact h3)]; rfl
 clear h3;go_wp2
 go_ret
 exact ⟨by rw [hN.out]; rfl, B3⟩
theorem BL.keep {w w' : World} {q o : Nat} {x : AD} (h : BL w q o x) (k : w'.heap[q]? = w.heap[q]?) : BL w' q o x :=
 ⟨(World.cell?_of_block (a := (ja q _)) k).trans h.1, (World.cell?_of_block (a := (ja q _)) k).trans h.2, (World.cell?_of_block (a := (ja q _)) k).trans h.3, (World.cell?_of_block (a := (ja q _)) k).trans h.4, (World.cell?_of_block (a := (ja q _)) k).trans h.5, (World.cell?_of_block (a := (ja q _)) k).trans h.6, (World.cell?_of_block (a := (ja q _)) k).trans h.7⟩
theorem IY (x : AF) (w : World) (hV : Ck w x) (h2 : x.two.length = 2) (b0 : 0 ≤ (x.two.getD 0 AD.nil).m.li ∧ (x.two.getD 0 AD.nil).m.li ≤ 1000000000) (b1 : 0 ≤ (x.two.getD 1 AD.nil).m.li ∧ (x.two.getD 1 AD.nil).m.li ≤ 1000000000) :
  Calls prog 163 #[.agg (bc x)] w fun e w' => e = .returned (.agg #[.bool true, ji (max (x.two.getD 0 AD.nil).m.li (x.two.getD 1 AD.nil).m.li + 1), ji 0, .slice none 0 0, ji 0, ji 0, ji 0]) ∧ Bw w w' := by
 have hbw : ∀ b off, x.aT = some (ja b off) → b < w.heap.size := fun b off e => hV.t.lt BC (by omega) _ e (by omega)
 obtain ⟨y, hy⟩ := AC ((w.alloc (Obj.cells (bc x) 63)).alloc (Obj.cells #[.bool false, ji 0, ji 0, .slice none 0 0, ji 0, ji 0, ji 0] 54));have k1 : Bw w (w.alloc (Obj.cells (bc x) 63)) := Ax _;have k2 : Below (w.alloc (Obj.cells (bc x) 63)).heap.size (w.alloc (Obj.cells (bc x) 63)) y := by rw [hy]; exact Ax _
 have B0 := AG k1 k2;have A : Af y w.heap.size x := (Af.new w _ x).below k2 (Af.new w _ x).lt;have Z : AQ y (w.heap.size + 1) (⟨false, 0, 0, [], 0, 0, 0⟩ : Mi) (.slice none 0 0) := by have := AQ.new (w.alloc (Obj.cells (bc x) 63)) 54 (⟨false, 0, 0, [], 0, 0, 0⟩ : Mi) (.slice none 0 0); rw [hy]; simpa using this
 have V := hV.later B0;clear k1 k2 hV;obtain ⟨b, off, hat, _⟩ := V.t (by omega);have vt := V.t;rw [hat] at vt;obtain ⟨d0, hd0⟩ : ∃ d, x.two.getD 0 AD.nil = d := ⟨_, rfl⟩;obtain ⟨d1, hd1⟩ : ∃ d, x.two.getD 1 AD.nil = d := ⟨_, rfl⟩;rw [hd0] at b0;rw [hd1] at b1;rw [hd0, hd1];have m0 : BL y b off d0 := by have := CZ (vt.at_ BC AD.nil (i := 0) (by omega)); rw [hd0] at this; simpa using this
 have m1 : BL y b (off + 7) d1 := by have := CZ (vt.at_ BC AD.nil (i := 1) (by omega)); rw [hd1] at this; simpa using this
 have hbl : b < w.heap.size := hbw b off hat;have hct := V.ct;rw [h2] at hct;replace hat : Hid _ := hat;replace h2 : Hid _ := h2;clear vt V hd0 hd1;go_enter func163, ntmps163
 go_upto_region 1 with fail
 rw [← hy];clear hy;refine An (fun Y => Af Y w.heap.size x ∧ BL Y b off d0 ∧ BL Y b (off + 7) d1) fun u0 kd => ?_
 have bz := B0.size;have hs0 : Af u0 w.heap.size x ∧ BL u0 b off d0 ∧ BL u0 b (off + 7) d1 := ⟨A.below kd A.lt, m0.below kd (by omega), m1.below kd (by omega)⟩;have Z := Z.below kd Z.lt;have Bd := AG B0 kd;clear kd A m0 m1;refine tw 0 3 (.pointer (some (ja w.heap.size 5))) ?_;refine tw 1 4 (.slice (some (ja b off)) 2 x.cT) ?_ (hy := by intro Y hSw; obtain ⟨⟨X0, X1, X2, X3, X4, X5, X6, X7, X8, X9⟩, _, _⟩ := hSw; rw [hat.out, h2.out] at X5; go_simp);refine tw 2 5 (.pointer (some (ja b off))) ?_ (hy := by intro Y hSw; go_simp; try omega);refine tw 3 6 (.pointer (some ⟨b, off + 1, none⟩)) ?_;refine tw 4 7 (ji d0.m.li) ?_ (hy := by intro Y hSw; obtain ⟨_, ⟨X0, X1, X2, X3, X4, X5, X6⟩, _⟩ := hSw; go_simp);refine tw 5 8 (.pointer (some (ja w.heap.size 5))) ?_;refine tw 6 9 (.slice (some (ja b off)) 2 x.cT) ?_ (hy := by intro Y hSw; obtain ⟨⟨X0, X1, X2, X3, X4, X5, X6, X7, X8, X9⟩, _, _⟩ := hSw; rw [hat.out, h2.out] at X5; go_simp);refine tw 7 10 (.pointer (some ⟨b, off + 7, none⟩)) ?_ (hy := by intro Y hSw; go_simp; try omega);refine tw 8 11 (.pointer (some ⟨b, off + 7 + 1, none⟩)) ?_;refine tw 9 12 (ji d1.m.li) ?_ (hy := by intro Y hSw; obtain ⟨_, _, ⟨X0, X1, X2, X3, X4, X5, X6⟩⟩ := hSw; go_simp);refine w1 10 fun Kz hKz => ?_
 go_simp
 go_at_call 141
 refine (G8 d0.m.li d1.m.li u0).mono ?_;rintro e u1 ⟨rfl, rfl⟩;rw [show (if d1.m.li < d0.m.li then d0.m.li else d1.m.li) = max d0.m.li d1.m.li by split <;> omega];refine hKz _ _ ⟨hs0, ?_⟩;clear hKz Kz;obtain ⟨t, ht⟩ : ∃ t : Int, t = max d0.m.li d1.m.li := ⟨_, rfl⟩;rw [← ht];have htb : 0 ≤ t ∧ t ≤ 1000000000 := by omega
 replace ht : Hid _ := ht;have hwr : IntKind.i64.wrap (t + 1) = t + 1 := by rw [IntKind.wrap_i64]; omega
 refine tw 11 14 (ji (t + 1)) ?_ (hy := by intro Y hSw; go_simp; try omega);refine tw 12 15 (.agg #[.bool true, ji (t + 1), ji 0, .slice none 0 0, ji 0, ji 0, ji 0]) ?_;refine w1 13 fun Kz hKz => ?_
 obtain ⟨z0, z1, z2, z3, z4, z5, z6, zf⟩ := id Z;have g0 := zf 0;have g1 := zf 1;have g2 := zf 2;have g3 := zf 3;have g4 := zf 4;have g5 := zf 5;have g6 := zf 6;go_simp
 clear z0 z1 z2 z3 z4 z5 z6 zf g0 g1 g2 g3 g4 g5 g6;obtain ⟨u3, hu3⟩ := AC (((((((u1.setCell ⟨w.heap.size + 1, 0, none⟩ (.bool true)).setCell ⟨w.heap.size + 1, 1, none⟩ (ji (t + 1))).setCell ⟨w.heap.size + 1, 2, none⟩ (ji 0)).setCell ⟨w.heap.size + 1, 3, none⟩ (.slice none 0 0)).setCell ⟨w.heap.size + 1, 4, none⟩ (ji 0)).setCell ⟨w.heap.size + 1, 5, none⟩ (ji 0)).setCell ⟨w.heap.size + 1, 6, none⟩ (ji 0));have Q3 : AQ u3 (w.heap.size + 1) (⟨true, t + 1, 0, [], 0, 0, 0⟩ : Mi) (.slice none 0 0) := by rw [hu3]; exact Z.put (⟨true, t + 1, 0, [], 0, 0, 0⟩ : Mi) _
 have kp : ∀ k, k ≠ w.heap.size + 1 → u3.heap[k]? = u1.heap[k]? := fun k hk => by rw [hu3]; exact Dd _ _ _ (⟨true, t + 1, 0, [], 0, 0, 0⟩ : Mi) _ hk
 have hs3 : Af u3 w.heap.size x ∧ BL u3 b off d0 ∧ BL u3 b (off + 7) d1 := ⟨hs0.1.keep (kp _ (by omega)), hs0.2.1.keep (kp _ (by omega)), hs0.2.2.keep (kp _ (by omega))⟩;have Bd : Bw w u3 := by rw [hu3]; exact EM (⟨true, t + 1, 0, [], 0, 0, 0⟩ : Mi) _ Bd (by omega)
 rw [← hu3];clear hu3 kp;refine hKz _ _ ⟨hs3, ?_⟩;clear hKz Kz;refine Ag ?_;clear hs3 hs0 Z;replace Q3 := Q3.all;go_wp2
 refine bodyPost_ret (v := .agg #[.bool true, ji (t + 1), ji 0, .slice none 0 0, ji 0, ji 0, ji 0]) (by simp [results, results163, go_sem, *]) rfl ⟨by rw [ht.out], Bd⟩
theorem BP {a : Option Addr} {g g' n c : Nat} (h : a = some (ja g 0)) (e : g' = g) : (Value.slice a n c).ownBlock = some g' := by subst h; subst e; rfl
theorem EZ (L : List AD) (k : Nat) (d : AD) (F : AD → Prop) (h1 : ∀ j, j < L.length → F (L.getD j AD.nil)) (h2 : F d) : ∀ j, j < (L.set k d).length → F ((L.set k d).getD j AD.nil) := by
 intro j hj;have hj' : j < L.length := by simpa using hj
 by_cases e : j = k
 ·
  subst e;simpa [List.getD, List.getElem?_set, hj'] using h2
 have := h1 j hj';have e' : ¬ k = j := fun z => e z.symm
 simpa [List.getD, List.getElem?_set, e'] using this
def AF.setT (x : AF) (k : Nat) (d : AD) : AF := { x with two := x.two.set k d }
theorem AF.setT_p (x : AF) (k : Nat) (d : AD) : (x.setT k d).p = ES x.p (k : Int) d.m := by
 unfold AF.setT AF.p ES;simp [List.map_set]
theorem AL.setT {base : Nat} {w : World} {x : AF} (h : AL base w x) {g k : Nat} (hat : x.aT = some (ja g 0)) (hk : k < x.two.length) (d : AD) (hd : AA AW 8 27 base w (.slice d.ad d.m.lg.length d.cap) d.m.lg) (hap : ∀ g_, (Value.slice d.ad d.m.lg.length d.cap).ownBlock = some g_ → (Value.slice x.aL x.ln.length x.cL).ownBlock ≠ some g_) :
  AL base (Cg w g (k * 7) (BG d)) (x.setT k d) := by
 have ht : AA BG 7 54 base (Cg w g (k * 7) (BG d)) (.slice x.aT (x.two.set k d).length x.cT) (x.two.set k d) := by
  have h1 := h.t;rw [hat] at h1 ⊢;have := h1.set BC (by omega) hk d;rw [List.length_set]; exact this
 refine ⟨ht, ?_, (h.n.keep (fun g_ e => DH _ _ _ _ (fun e2 => h.t.apart h.n (by decide) (BP hat e2) e))), (h.g.keep (fun g_ e => DH _ _ _ _ (fun e2 => h.t.apart h.g (by decide) (BP hat e2) e))), (h.i.keep (fun g_ e => DH _ _ _ _ (fun e2 => h.t.apart h.i (by decide) (BP hat e2) e))), (h.s.keep (fun g_ e => DH _ _ _ _ (fun e2 => h.t.apart h.s (by decide) (BP hat e2) e))), ?_⟩
 ·
  exact EZ x.two k d (fun z => AA AW 8 27 base (Cg w g (k * 7) (BG d)) (.slice z.ad z.m.lg.length z.cap) z.m.lg) (fun j hj => (h.l j hj).keep (fun g_ e => DH _ _ _ _ (fun e2 => h.t.apart (h.l j hj) (by decide) (BP hat e2) e))) (hd.keep (fun g_ e => DH _ _ _ _ (fun e2 => h.t.apart hd (by decide) (BP hat e2) e)))
 exact EZ x.two k d (fun z => ∀ g_, (Value.slice z.ad z.m.lg.length z.cap).ownBlock = some g_ → (Value.slice x.aL x.ln.length x.cL).ownBlock ≠ some g_) (fun j hj => h.ap j hj) hap
theorem AL.setN {base : Nat} {w w' : World} {x : AF} (h : AL base w x) (N : List Wi) (a : Option Addr) (c : Nat) (hN : AA As 12 164 base w' (.slice a N.length c) N) (k : ∀ g, g < w.heap.size → (Value.slice x.aN x.net.length x.cN).ownBlock ≠ some g → w'.heap[g]? = w.heap[g]?) : AL base w' { x with net := N, aN := a, cN := c } :=
 ⟨h.t.keep (fun g e => k g (h.t.lt g e).2 (fun e2 => h.n.apart h.t (by decide) e2 e)), fun j hj => (h.l j hj).keep (fun g e => k g ((h.l j hj).lt g e).2 (fun e2 => h.n.apart (h.l j hj) (by decide) e2 e)), hN, h.g.keep (fun g e => k g (h.g.lt g e).2 (fun e2 => h.n.apart h.g (by decide) e2 e)), h.i.keep (fun g e => k g (h.i.lt g e).2 (fun e2 => h.n.apart h.i (by decide) e2 e)), h.s.keep (fun g e => k g (h.s.lt g e).2 (fun e2 => h.n.apart h.s (by decide) e2 e)), h.ap⟩
theorem AL.setL {base : Nat} {w w' : World} {x : AF} (h : AL base w x) (N : List Ik) (a : Option Addr) (c : Nat) (hN : AA AW 8 27 base w' (.slice a N.length c) N) (ho : (Value.slice a N.length c).ownBlock = (Value.slice x.aL x.ln.length x.cL).ownBlock ∨ ∀ g, (Value.slice a N.length c).ownBlock = some g → w.heap.size ≤ g) (k : ∀ g, g < w.heap.size → (Value.slice x.aL x.ln.length x.cL).ownBlock ≠ some g → w'.heap[g]? = w.heap[g]?) : AL base w' { x with ln := N, aL := a, cL := c } :=
 ⟨h.t.keep (fun g e => k g (h.t.lt g e).2 (fun e2 => h.i.apart h.t (by decide) e2 e)), fun j hj => (h.l j hj).keep (fun g e => k g ((h.l j hj).lt g e).2 (h.ap j hj g e)), h.n.keep (fun g e => k g (h.n.lt g e).2 (fun e2 => h.i.apart h.n (by decide) e2 e)), h.g.keep (fun g e => k g (h.g.lt g e).2 (fun e2 => h.i.apart h.g (by decide) e2 e)), hN, h.s.keep (fun g e => k g (h.s.lt g e).2 (fun e2 => h.i.apart h.s (by decide) e2 e)), fun j hj g e e2 => ho.elim (fun z => h.ap j hj g e (by rw [← z]; exact e2)) (fun z => by have := z g e2; have := ((h.l j hj).lt g e).2; omega)⟩
theorem AL.setG {base : Nat} {w : World} {x : AF} (h : AL base w x) {g k : Nat} (hat : x.aG = some (ja g 0)) (hk : k < x.ga.length) (b : Bool) :
  AL base (Cg w g (k * 1) (Bz b)) { x with ga := x.ga.set k b } := by
 have ht : AA Bz 1 4 base (Cg w g (k * 1) (Bz b)) (.slice x.aG (x.ga.set k b).length x.cG) (x.ga.set k b) := by
  have h1 := h.g;rw [hat] at h1 ⊢;have := h1.set EE (by omega) hk b;rw [List.length_set]; exact this
 have kk : ∀ {X : Type} {enc : X → List Value} {n : Nat} {T : TypeId} {v : Value} {L : List X}, AA enc n T base w v L → 4 ≠ T → AA enc n T base (Cg w g (k * 1) (Bz b)) v L := fun f hT => f.keep (fun g_ e => DH _ _ _ _ (fun e2 => h.g.apart f hT (BP hat e2) e))
 exact ⟨kk h.t (by decide), fun j hj => kk (h.l j hj) (by decide), kk h.n (by decide), ht, kk h.i (by decide), kk h.s (by decide), h.ap⟩
end Go.Proofs.YtjmnaeeknomiaaaGreatDoor
