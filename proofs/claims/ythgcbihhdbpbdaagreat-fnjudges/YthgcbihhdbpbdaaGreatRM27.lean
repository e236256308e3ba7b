import Derived.Test.YthgcbihhdbpbdaaGreatRM18
namespace Go.Proofs.YthgcbihhdbpbdaaGreat
open Go.ChangeShapes Go.WideShapes Go.ChangeAt Go.RowKit
open Go.ChangeMaps (open_string shut_string)
set_option linter.unusedVariables false
set_option maxRecDepth 100000
set_option maxHeartbeats 32000000
set_option linter.unusedSimpArgs false
open Go.Proofs.Tryz
attribute [local go_sem] ji ja
def Dq (m : Mi) : Bool :=
 Be m.li && (Be m.ep && (Be m.al && (decide ((m.lg.length : Int) ≤ 60) && (m.lg.all Av && (decide (0 ≤ m.sd ∧ m.sd ≤ (m.lg.length : Int)) && decide (0 ≤ m.ac ∧ m.ac ≤ (m.lg.length : Int)))))))
theorem LM (m : Mi) (q : Nat) (ad : Option Addr) (cap : Nat) (w : World) (M : CO w q m (.slice ad m.lg.length cap)) (hv : AH AS w ad m.lg) (hl : m.lg.length ≤ 1048577) :
  Calls prog 114 #[.pointer (some (ja q 0))] w fun e w' => e = .returned (.bool (Dq m)) ∧ Bw w w' := by
 obtain ⟨R, hR⟩ := AB (Dq m);rw [← hR];replace hR : Hid _ := hR;go_enter func114, ntmps114
 go_upto_region 1 with fail
 refine AR (fun Y => Bw w Y) fun u0 hb0 => ?_
 refine tw 0 3 (.pointer (some (ja q 0))) ?_;refine tw 1 4 (.pointer (some (ja q 0))) ?_;refine tw 2 5 (.pointer (some (ja q 1))) ?_;refine tw 3 6 (.pointer (some (ja q 2))) ?_;refine tw 4 7 (ji m.li) ?_ (hy := by intro Y hSw; obtain ⟨X0, X1, X2, X3, X4, X5, X6, XF⟩ := M.below hSw M.lt; go_simp);refine w1 5 fun Kz hKz => ?_
 go_simp
 go_at_call 92
 refine (Ez m.li u0).mono ?_;rintro e u1 ⟨rfl, kq⟩;replace kq : Bw u0 u1 := by rw [kq]; exact Below.refl _ _
 have hb1 := AA hb0 kq;clear kq;refine hKz _ _ ⟨hb1, ?_⟩;clear hKz Kz;cases h_li : (Be m.li)
 ·
  replace h_li : Hid _ := h_li;refine tw 6 9 (.bool false) ?_;refine ts 7 10 ?_;refine ts 8 11 ?_;refine ts 9 12 ?_;refine ts 10 13 ?_;refine ts 11 14 ?_;refine ts 12 15 ?_;refine tw 13 16 (.bool false) ?_;refine tw 14 17 (.bool false) ?_;refine ts 15 18 ?_;refine ts 16 19 ?_;refine ts 17 20 ?_;refine ts 18 21 ?_;refine ts 19 22 ?_;refine ts 20 23 ?_;refine tw 21 24 (.bool false) ?_;refine tw 22 25 (.bool false) ?_;refine ts 23 26 ?_;refine ts 24 27 ?_;refine ts 25 28 ?_;refine ts 26 29 ?_;refine ts 27 30 ?_;refine tw 28 31 (.bool false) ?_;refine tw 29 32 (.bool false) ?_;refine ts 30 33 ?_;refine ts 31 34 ?_;refine ts 32 35 ?_;refine ts 33 36 ?_;refine tw 34 37 (.bool false) ?_;refine tw 35 38 (.bool false) ?_;refine ts 36 39 ?_;refine ts 37 40 ?_;refine ts 38 41 ?_;refine ts 39 42 ?_;refine ts 40 43 ?_;refine ts 41 44 ?_;refine ts 42 45 ?_;refine ts 43 46 ?_;refine ts 44 47 ?_;refine tw 45 48 (.bool false) ?_;refine tw 46 49 (.bool false) ?_;refine ts 47 50 ?_;refine ts 48 51 ?_;refine ts 49 52 ?_;refine ts 50 53 ?_;refine ts 51 54 ?_;refine ts 52 55 ?_;refine ts 53 56 ?_;refine ts 54 57 ?_;refine ts 55 58 ?_;refine tw 56 59 (.bool false) ?_;refine tw 57 2 (.bool false) ?_;refine AM ?_;have hN : Hid (R = false) := by unfold Hid; rw [hR.out]; unfold Dq; rw [h_li.out]; rfl
  go_wp2
  go_ret
  exact ⟨by rw [hN.out]; rfl, hb1⟩
 replace h_li : Hid _ := h_li;refine tw 6 9 (.bool true) ?_;refine tw 7 10 (.pointer (some (ja q 0))) ?_;refine tw 8 11 (.pointer (some (ja q 0))) ?_;refine tw 9 12 (.pointer (some (ja q 1))) ?_;refine tw 10 13 (.pointer (some (ja q 3))) ?_;refine tw 11 14 (ji m.ep) ?_ (hy := by intro Y hSw; obtain ⟨X0, X1, X2, X3, X4, X5, X6, XF⟩ := M.below hSw M.lt; go_simp);refine w1 12 fun Kz hKz => ?_
 go_simp
 go_at_call 92
 refine (Ez m.ep u1).mono ?_;rintro e u2 ⟨rfl, kq⟩;replace kq : Bw u1 u2 := by rw [kq]; exact Below.refl _ _
 have hb2 := AA hb1 kq;clear kq;refine hKz _ _ ⟨hb2, ?_⟩;clear hKz Kz;cases h_ep : (Be m.ep)
 ·
  replace h_ep : Hid _ := h_ep;refine tw 13 16 (.bool false) ?_;refine tw 14 17 (.bool false) ?_;refine ts 15 18 ?_;refine ts 16 19 ?_;refine ts 17 20 ?_;refine ts 18 21 ?_;refine ts 19 22 ?_;refine ts 20 23 ?_;refine tw 21 24 (.bool false) ?_;refine tw 22 25 (.bool false) ?_;refine ts 23 26 ?_;refine ts 24 27 ?_;refine ts 25 28 ?_;refine ts 26 29 ?_;refine ts 27 30 ?_;refine tw 28 31 (.bool false) ?_;refine tw 29 32 (.bool false) ?_;refine ts 30 33 ?_;refine ts 31 34 ?_;refine ts 32 35 ?_;refine ts 33 36 ?_;refine tw 34 37 (.bool false) ?_;refine tw 35 38 (.bool false) ?_;refine ts 36 39 ?_;refine ts 37 40 ?_;refine ts 38 41 ?_;refine ts 39 42 ?_;refine ts 40 43 ?_;refine ts 41 44 ?_;refine ts 42 45 ?_;refine ts 43 46 ?_;refine ts 44 47 ?_;refine tw 45 48 (.bool false) ?_;refine tw 46 49 (.bool false) ?_;refine ts 47 50 ?_;refine ts 48 51 ?_;refine ts 49 52 ?_;refine ts 50 53 ?_;refine ts 51 54 ?_;refine ts 52 55 ?_;refine ts 53 56 ?_;refine ts 54 57 ?_;refine ts 55 58 ?_;refine tw 56 59 (.bool false) ?_;refine tw 57 2 (.bool false) ?_;refine AM ?_;have hN : Hid (R = false) := by unfold Hid; rw [hR.out]; unfold Dq; rw [h_li.out, h_ep.out]; rfl
  go_wp2
  go_ret
  exact ⟨by rw [hN.out]; rfl, hb2⟩
 replace h_ep : Hid _ := h_ep;refine tw 13 16 (.bool true) ?_;refine tw 14 17 (.bool true) ?_;refine tw 15 18 (.pointer (some (ja q 0))) ?_;refine tw 16 19 (.pointer (some (ja q 0))) ?_;refine tw 17 20 (.pointer (some (ja q 1))) ?_;refine tw 18 21 (.pointer (some (ja q 6))) ?_;refine tw 19 22 (ji m.al) ?_ (hy := by intro Y hSw; obtain ⟨X0, X1, X2, X3, X4, X5, X6, XF⟩ := M.below hSw M.lt; go_simp);refine w1 20 fun Kz hKz => ?_
 go_simp
 go_at_call 92
 refine (Ez m.al u2).mono ?_;rintro e u3 ⟨rfl, kq⟩;replace kq : Bw u2 u3 := by rw [kq]; exact Below.refl _ _
 have hb3 := AA hb2 kq;clear kq;refine hKz _ _ ⟨hb3, ?_⟩;clear hKz Kz;cases h_al : (Be m.al)
 ·
  replace h_al : Hid _ := h_al;refine tw 21 24 (.bool false) ?_;refine tw 22 25 (.bool false) ?_;refine ts 23 26 ?_;refine ts 24 27 ?_;refine ts 25 28 ?_;refine ts 26 29 ?_;refine ts 27 30 ?_;refine tw 28 31 (.bool false) ?_;refine tw 29 32 (.bool false) ?_;refine ts 30 33 ?_;refine ts 31 34 ?_;refine ts 32 35 ?_;refine ts 33 36 ?_;refine tw 34 37 (.bool false) ?_;refine tw 35 38 (.bool false) ?_;refine ts 36 39 ?_;refine ts 37 40 ?_;refine ts 38 41 ?_;refine ts 39 42 ?_;refine ts 40 43 ?_;refine ts 41 44 ?_;refine ts 42 45 ?_;refine ts 43 46 ?_;refine ts 44 47 ?_;refine tw 45 48 (.bool false) ?_;refine tw 46 49 (.bool false) ?_;refine ts 47 50 ?_;refine ts 48 51 ?_;refine ts 49 52 ?_;refine ts 50 53 ?_;refine ts 51 54 ?_;refine ts 52 55 ?_;refine ts 53 56 ?_;refine ts 54 57 ?_;refine ts 55 58 ?_;refine tw 56 59 (.bool false) ?_;refine tw 57 2 (.bool false) ?_;refine AM ?_;have hN : Hid (R = false) := by unfold Hid; rw [hR.out]; unfold Dq; rw [h_li.out, h_ep.out, h_al.out]; rfl
  go_wp2
  go_ret
  exact ⟨by rw [hN.out]; rfl, hb3⟩
 replace h_al : Hid _ := h_al;refine tw 21 24 (.bool true) ?_;refine tw 22 25 (.bool true) ?_;refine tw 23 26 (.pointer (some (ja q 0))) ?_;refine tw 24 27 (.pointer (some (ja q 0))) ?_;refine tw 25 28 (.pointer (some (ja q 0))) ?_;refine w1 26 fun Kz hKz => ?_
 go_simp
 go_at_call 140
 refine (E5 q m.lg.length ad cap u3 (M.below hb3 M.lt).c0).mono ?_;rintro e u4 ⟨rfl, kq⟩;replace kq : Bw u3 u4 := by rw [kq]; exact Below.refl _ _
 have hb4 := AA hb3 kq;clear kq;refine hKz _ _ ⟨hb4, ?_⟩;clear hKz Kz;refine tw 27 30 (.bool (decide ((m.lg.length : Int) ≤ 60))) ?_;cases h_len : (decide ((m.lg.length : Int) ≤ 60))
 ·
  replace h_len : Hid _ := h_len;refine tw 28 31 (.bool false) ?_;refine tw 29 32 (.bool false) ?_;refine ts 30 33 ?_;refine ts 31 34 ?_;refine ts 32 35 ?_;refine ts 33 36 ?_;refine tw 34 37 (.bool false) ?_;refine tw 35 38 (.bool false) ?_;refine ts 36 39 ?_;refine ts 37 40 ?_;refine ts 38 41 ?_;refine ts 39 42 ?_;refine ts 40 43 ?_;refine ts 41 44 ?_;refine ts 42 45 ?_;refine ts 43 46 ?_;refine ts 44 47 ?_;refine tw 45 48 (.bool false) ?_;refine tw 46 49 (.bool false) ?_;refine ts 47 50 ?_;refine ts 48 51 ?_;refine ts 49 52 ?_;refine ts 50 53 ?_;refine ts 51 54 ?_;refine ts 52 55 ?_;refine ts 53 56 ?_;refine ts 54 57 ?_;refine ts 55 58 ?_;refine tw 56 59 (.bool false) ?_;refine tw 57 2 (.bool false) ?_;refine AM ?_;have hN : Hid (R = false) := by unfold Hid; rw [hR.out]; unfold Dq; rw [h_li.out, h_ep.out, h_al.out, h_len.out]; rfl
  go_wp2
  go_ret
  exact ⟨by rw [hN.out]; rfl, hb4⟩
 replace h_len : Hid _ := h_len;refine tw 28 31 (.bool true) ?_;refine tw 29 32 (.bool true) ?_;refine tw 30 33 (.pointer (some (ja q 0))) ?_;refine tw 31 34 (.pointer (some (ja q 0))) ?_;refine tw 32 35 (.pointer (some (ja q 0))) ?_;refine w1 33 fun Kz hKz => ?_
 go_simp
 go_at_call 141
 refine (LR q ad cap m.lg u4 (M.below hb4 M.lt).c0 (hv.below hb4 (hv.lt Aa (by omega))) hl).mono ?_;rintro e u5 ⟨rfl, kq⟩;have hb5 := AA hb4 kq;clear kq;refine hKz _ _ ⟨hb5, ?_⟩;clear hKz Kz;cases h_all : (m.lg.all Av)
 ·
  replace h_all : Hid _ := h_all;refine tw 34 37 (.bool false) ?_;refine tw 35 38 (.bool false) ?_;refine ts 36 39 ?_;refine ts 37 40 ?_;refine ts 38 41 ?_;refine ts 39 42 ?_;refine ts 40 43 ?_;refine ts 41 44 ?_;refine ts 42 45 ?_;refine ts 43 46 ?_;refine ts 44 47 ?_;refine tw 45 48 (.bool false) ?_;refine tw 46 49 (.bool false) ?_;refine ts 47 50 ?_;refine ts 48 51 ?_;refine ts 49 52 ?_;refine ts 50 53 ?_;refine ts 51 54 ?_;refine ts 52 55 ?_;refine ts 53 56 ?_;refine ts 54 57 ?_;refine ts 55 58 ?_;refine tw 56 59 (.bool false) ?_;refine tw 57 2 (.bool false) ?_;refine AM ?_;have hN : Hid (R = false) := by unfold Hid; rw [hR.out]; unfold Dq; rw [h_li.out, h_ep.out, h_al.out, h_len.out, h_all.out]; rfl
  go_wp2
  go_ret
  exact ⟨by rw [hN.out]; rfl, hb5⟩
 replace h_all : Hid _ := h_all;refine tw 34 37 (.bool true) ?_;refine tw 35 38 (.bool true) ?_;refine tw 36 39 (.pointer (some (ja q 0))) ?_;refine tw 37 40 (.pointer (some (ja q 0))) ?_;refine tw 38 41 (.pointer (some (ja q 0))) ?_;refine tw 39 42 (.pointer (some (ja q 0))) ?_;refine tw 40 43 (.pointer (some (ja q 0))) ?_;refine tw 41 44 (.pointer (some (ja q 1))) ?_;refine tw 42 45 (.pointer (some (ja q 4))) ?_;refine tw 43 46 (ji m.sd) ?_ (hy := by intro Y hSw; obtain ⟨X0, X1, X2, X3, X4, X5, X6, XF⟩ := M.below hSw M.lt; go_simp);refine w1 44 fun Kz hKz => ?_
 go_simp
 go_at_call 142
 refine (Ic q m.lg.length ad cap m.sd u5 (M.below hb5 M.lt).c0).mono ?_;rintro e u6 ⟨rfl, kq⟩;replace kq : Bw u5 u6 := by rw [kq]; exact Below.refl _ _
 have hb6 := AA hb5 kq;clear kq;refine hKz _ _ ⟨hb6, ?_⟩;clear hKz Kz;cases h_sd : (decide (0 ≤ m.sd ∧ m.sd ≤ (m.lg.length : Int)))
 ·
  replace h_sd : Hid _ := h_sd;refine tw 45 48 (.bool false) ?_;refine tw 46 49 (.bool false) ?_;refine ts 47 50 ?_;refine ts 48 51 ?_;refine ts 49 52 ?_;refine ts 50 53 ?_;refine ts 51 54 ?_;refine ts 52 55 ?_;refine ts 53 56 ?_;refine ts 54 57 ?_;refine ts 55 58 ?_;refine tw 56 59 (.bool false) ?_;refine tw 57 2 (.bool false) ?_;refine AM ?_;have hN : Hid (R = false) := by unfold Hid; rw [hR.out]; unfold Dq; rw [h_li.out, h_ep.out, h_al.out, h_len.out, h_all.out, h_sd.out]; rfl
  go_wp2
  go_ret
  exact ⟨by rw [hN.out]; rfl, hb6⟩
 replace h_sd : Hid _ := h_sd;refine tw 45 48 (.bool true) ?_;refine tw 46 49 (.bool true) ?_;refine tw 47 50 (.pointer (some (ja q 0))) ?_;refine tw 48 51 (.pointer (some (ja q 0))) ?_;refine tw 49 52 (.pointer (some (ja q 0))) ?_;refine tw 50 53 (.pointer (some (ja q 0))) ?_;refine tw 51 54 (.pointer (some (ja q 0))) ?_;refine tw 52 55 (.pointer (some (ja q 1))) ?_;refine tw 53 56 (.pointer (some (ja q 5))) ?_;refine tw 54 57 (ji m.ac) ?_ (hy := by intro Y hSw; obtain ⟨X0, X1, X2, X3, X4, X5, X6, XF⟩ := M.below hSw M.lt; go_simp);refine w1 55 fun Kz hKz => ?_
 go_simp
 go_at_call 142
 refine (Ic q m.lg.length ad cap m.ac u6 (M.below hb6 M.lt).c0).mono ?_;rintro e u7 ⟨rfl, kq⟩;replace kq : Bw u6 u7 := by rw [kq]; exact Below.refl _ _
 have hb7 := AA hb6 kq;clear kq;refine hKz _ _ ⟨hb7, ?_⟩;clear hKz Kz;cases h_ac : (decide (0 ≤ m.ac ∧ m.ac ≤ (m.lg.length : Int)))
 ·
  replace h_ac : Hid _ := h_ac;refine tw 56 59 (.bool false) ?_;refine tw 57 2 (.bool false) ?_;refine AM ?_;have hN : Hid (R = false) := by unfold Hid; rw [hR.out]; unfold Dq; rw [h_li.out, h_ep.out, h_al.out, h_len.out, h_all.out, h_sd.out, h_ac.out]; rfl
  go_wp2
  go_ret
  exact ⟨by rw [hN.out]; rfl, hb7⟩
 replace h_ac : Hid _ := h_ac;refine tw 56 59 (.bool true) ?_;refine tw 57 2 (.bool true) ?_;refine AM ?_;have hN : Hid (R = true) := by unfold Hid; rw [hR.out]; unfold Dq; rw [h_li.out, h_ep.out, h_al.out, h_len.out, h_all.out, h_sd.out, h_ac.out]; rfl
 go_wp2
 go_ret
 exact ⟨by rw [hN.out]; rfl, hb7⟩
attribute [local go_sem] mc
def Ek (m : Mi) : Bool := decide (m.up = false ∧ m.ep = 0 ∧ m.sd = 0 ∧ m.ac = 0 ∧ m.al = 0) && decide (m.lg.length = 0)
theorem Jn (m : Mi) (w : World) : (binOp .eql 162 (.agg #[.bool m.up, ji m.li, ji m.ep, ji m.sd, ji m.ac, ji m.al]) (.agg #[.bool false, ji m.li, ji 0, ji 0, ji 0, ji 0])).run prog w = .ok (.bool (decide (m.up = false ∧ m.ep = 0 ∧ m.sd = 0 ∧ m.ac = 0 ∧ m.al = 0))) w := by
 go_simp
 all_goals ((repeat' split) <;> first | (simp_all; done) | grind)
theorem Jm (m : Mi) (ad : Option Addr) (cap : Nat) (w : World) (hv : AH AS w ad m.lg) (hl : m.lg.length ≤ 1048577) :
  Calls prog 115 #[.agg #[.bool m.up, ji m.li, ji m.ep, .slice ad m.lg.length cap, ji m.sd, ji m.ac, ji m.al]] w fun e w' => e = .returned (.bool (Ek m)) ∧ Bw w w' := by
 have hB := hv.lt Aa (by omega);have eM := Jn m;obtain ⟨R, hR⟩ := AB (Ek m);rw [← hR];replace hR : Hid _ := hR;obtain ⟨y, hy, B0⟩ := AI w (Obj.cells (mc m ad cap) 52);have A : Ag y w.heap.size m (.slice ad m.lg.length cap) := by rw [hy]; exact Ag.new w _ _ _
 have S0 := A.lt;have hv1 := hv.below B0 hB;clear hv;go_enter func115, ntmps115
 go_upto_region 1 with fail
 rw [← hy];clear hy;refine AR (fun Y => Bw y Y) fun u0 hb0 => ?_
 refine tw 0 5 (.agg (mc m ad cap)) ?_ (hy := by intro Y hSw; have X := (A.below hSw A.lt).all; go_simp);refine tw 2 7 (.agg (mc m ad cap)) ?_ (hy := by intro Y hSw; have X := (A.below hSw A.lt).all; go_simp);refine w1 1 fun Kz hKz => ?_
 go_simp
 go_at_call 98
 refine (Gl m ad cap u0 (hv1.below hb0 (hv1.lt Aa (by omega))) hl).mono ?_;rintro e u1 ⟨q1, a1, c1, rfl, M1, O1, lo1, lq1, kq⟩;have hb1 := AA hb0 kq;have su1 := kq.size;have sb0 := hb0.size;have sq1 := M1.lt;clear kq;refine hKz _ _ ⟨hb1, ?_⟩;clear hKz Kz;refine w1 3 fun Kz hKz => ?_
 go_simp
 go_at_call 98
 refine (Gl m ad cap u1 (hv1.below hb1 (hv1.lt Aa (by omega))) hl).mono ?_;rintro e u2 ⟨q2, a2, c2, rfl, M2, O2, lo2, lq2, kq⟩;have hb2 := AA hb1 kq;have su2 := kq.size;have sb1 := hb1.size;have sq2 := M2.lt;have M1 := M1.below kq M1.lt;clear kq;refine hKz _ _ ⟨hb2, ?_⟩;clear hKz Kz;have hne1 : q1 ≠ q2 := by omega
 have hne2 : ∀ g, (Value.slice a2 m.lg.length c2).ownBlock = some g → g ≠ q1 := fun g e => by have := (O2.lt g e).1; omega
 have hne3 : ∀ g, (Value.slice a2 m.lg.length c2).ownBlock = some g → g ≠ q2 := fun g e => by have := lo2 g e; omega
 have hlo : y.heap.size ≤ q2 := by omega
 have hlo2 : ∀ g, (Value.slice a2 m.lg.length c2).ownBlock = some g → y.heap.size ≤ g := fun g e => by have := (O2.lt g e).1; omega
 clear lo2;refine tw 4 3 (.pointer (some (ja q1 0))) ?_;refine tw 5 4 (.pointer (some (ja q2 0))) ?_;refine AM ?_;clear lo1 O1 hv1 A;go_wp2_with fail
 go_at_call 143
 refine (LN m q2 _ a2 c2 u2 M2 O2 hne3).mono ?_;rintro e v ⟨rfl, N2, T⟩;have M1 := M1.keep (T.block q1 M1.lt hne1 (fun e => hne2 q1 e rfl));have hbv : Bw y v := hb2.trans (T.below hb2.size hlo hlo2);clear T M2 O2 hb2 hb1 hb0 hne2 hne3 hlo2;go_upto_region 3 with fail
 cases hF : decide (m.up = false ∧ m.ep = 0 ∧ m.sd = 0 ∧ m.ac = 0 ∧ m.al = 0)
 ·
  rw [hF] at eM;replace hF : Hid _ := hF;refine AR (fun Y => Bw v Y) fun u0 hb0 => ?_
  refine tw 0 11 (.pointer (some (ja q1 0))) ?_;refine tw 1 12 (.pointer (some (ja q1 0))) ?_;refine tw 2 13 (.pointer (some (ja q1 1))) ?_;refine tw 3 14 (.agg #[.bool m.up, ji m.li, ji m.ep, ji m.sd, ji m.ac, ji m.al]) ?_ (hy := by intro Y hSw; obtain ⟨X0, X1, X2, X3, X4, X5, X6, XF⟩ := M1.below hSw M1.lt; go_simp);refine tw 4 15 (.pointer (some (ja q2 0))) ?_;refine tw 5 16 (.pointer (some (ja q2 0))) ?_;refine tw 6 17 (.pointer (some (ja q2 1))) ?_;refine tw 7 18 (.agg #[.bool false, ji m.li, ji 0, ji 0, ji 0, ji 0]) ?_ (hy := by intro Y hSw; obtain ⟨X0, X1, X2, X3, X4, X5, X6, XF⟩ := N2.below hSw N2.lt; go_simp);refine tw 8 19 (.bool false) ?_;refine tw 9 20 (.bool false) ?_;refine ts 10 21 ?_;refine ts 11 22 ?_;refine ts 12 23 ?_;refine ts 13 24 ?_;refine ts 14 25 ?_;refine ts 15 26 ?_;refine ts 16 27 ?_;refine ts 17 28 ?_;refine ts 18 29 ?_;refine tw 19 30 (.bool false) ?_;refine tw 20 2 (.bool false) ?_;refine AM ?_;have hN : Hid (R = false) := by unfold Hid; rw [hR.out]; unfold Ek; rw [hF.out]; rfl
  go_wp2
  go_ret
  exact ⟨by rw [hN.out]; rfl, B0.trans ((AA hbv hb0).mono B0.size)⟩
 rw [hF] at eM;replace hF : Hid _ := hF;cases hG : decide (m.lg.length = 0)
 ·
  have dG : ((m.lg.length : Int) == 0) = false := by rw [beq_eq_false_iff_ne]; have := of_decide_eq_false hG; omega
  replace hG : Hid _ := hG;refine AR (fun Y => Bw v Y) fun u0 hb0 => ?_
  refine tw 0 11 (.pointer (some (ja q1 0))) ?_;refine tw 1 12 (.pointer (some (ja q1 0))) ?_;refine tw 2 13 (.pointer (some (ja q1 1))) ?_;refine tw 3 14 (.agg #[.bool m.up, ji m.li, ji m.ep, ji m.sd, ji m.ac, ji m.al]) ?_ (hy := by intro Y hSw; obtain ⟨X0, X1, X2, X3, X4, X5, X6, XF⟩ := M1.below hSw M1.lt; go_simp);refine tw 4 15 (.pointer (some (ja q2 0))) ?_;refine tw 5 16 (.pointer (some (ja q2 0))) ?_;refine tw 6 17 (.pointer (some (ja q2 1))) ?_;refine tw 7 18 (.agg #[.bool false, ji m.li, ji 0, ji 0, ji 0, ji 0]) ?_ (hy := by intro Y hSw; obtain ⟨X0, X1, X2, X3, X4, X5, X6, XF⟩ := N2.below hSw N2.lt; go_simp);refine tw 8 19 (.bool true) ?_;refine tw 9 20 (.bool true) ?_;refine tw 10 21 (.pointer (some (ja q1 0))) ?_;refine tw 11 22 (.pointer (some (ja q1 0))) ?_;refine tw 12 23 (.pointer (some (ja q1 0))) ?_;refine tw 14 25 (.pointer (some (ja q2 0))) ?_;refine tw 15 26 (.pointer (some (ja q2 0))) ?_;refine tw 16 27 (.pointer (some (ja q2 0))) ?_;refine w1 13 fun Kz hKz => ?_
  go_simp
  go_at_call 140
  refine (E5 q1 m.lg.length a1 c1 u0 (M1.below hb0 M1.lt).c0).mono ?_;rintro e u1 ⟨rfl, kq⟩;have hb1 : Bw v u1 := by rw [kq]; exact hb0
  clear kq;refine hKz _ _ ⟨hb1, ?_⟩;clear hKz Kz;refine w1 17 fun Kz hKz => ?_
  go_simp
  go_at_call 140
  refine (E5 q2 0 a2 c2 u1 (N2.below hb1 N2.lt).c0).mono ?_;rintro e u2 ⟨rfl, kq⟩;have hb2 : Bw v u2 := by rw [kq]; exact hb1
  clear kq;refine hKz _ _ ⟨hb2, ?_⟩;clear hKz Kz;refine tw 18 29 (.bool false) ?_;refine tw 19 30 (.bool false) ?_;refine tw 20 2 (.bool false) ?_;refine AM ?_;have hN : Hid (R = false) := by unfold Hid; rw [hR.out]; unfold Ek; rw [hF.out, hG.out]; rfl
  go_wp2
  go_ret
  exact ⟨by rw [hN.out]; rfl, B0.trans ((AA hbv hb2).mono B0.size)⟩
 have dG : ((m.lg.length : Int) == 0) = true := by rw [beq_iff_eq]; have := of_decide_eq_true hG; omega
 replace hG : Hid _ := hG;refine AR (fun Y => Bw v Y) fun u0 hb0 => ?_
 refine tw 0 11 (.pointer (some (ja q1 0))) ?_;refine tw 1 12 (.pointer (some (ja q1 0))) ?_;refine tw 2 13 (.pointer (some (ja q1 1))) ?_;refine tw 3 14 (.agg #[.bool m.up, ji m.li, ji m.ep, ji m.sd, ji m.ac, ji m.al]) ?_ (hy := by intro Y hSw; obtain ⟨X0, X1, X2, X3, X4, X5, X6, XF⟩ := M1.below hSw M1.lt; go_simp);refine tw 4 15 (.pointer (some (ja q2 0))) ?_;refine tw 5 16 (.pointer (some (ja q2 0))) ?_;refine tw 6 17 (.pointer (some (ja q2 1))) ?_;refine tw 7 18 (.agg #[.bool false, ji m.li, ji 0, ji 0, ji 0, ji 0]) ?_ (hy := by intro Y hSw; obtain ⟨X0, X1, X2, X3, X4, X5, X6, XF⟩ := N2.below hSw N2.lt; go_simp);refine tw 8 19 (.bool true) ?_;refine tw 9 20 (.bool true) ?_;refine tw 10 21 (.pointer (some (ja q1 0))) ?_;refine tw 11 22 (.pointer (some (ja q1 0))) ?_;refine tw 12 23 (.pointer (some (ja q1 0))) ?_;refine tw 14 25 (.pointer (some (ja q2 0))) ?_;refine tw 15 26 (.pointer (some (ja q2 0))) ?_;refine tw 16 27 (.pointer (some (ja q2 0))) ?_;refine w1 13 fun Kz hKz => ?_
 go_simp
 go_at_call 140
 refine (E5 q1 m.lg.length a1 c1 u0 (M1.below hb0 M1.lt).c0).mono ?_;rintro e u1 ⟨rfl, kq⟩;have hb1 : Bw v u1 := by rw [kq]; exact hb0
 clear kq;refine hKz _ _ ⟨hb1, ?_⟩;clear hKz Kz;refine w1 17 fun Kz hKz => ?_
 go_simp
 go_at_call 140
 refine (E5 q2 0 a2 c2 u1 (N2.below hb1 N2.lt).c0).mono ?_;rintro e u2 ⟨rfl, kq⟩;have hb2 : Bw v u2 := by rw [kq]; exact hb1
 clear kq;refine hKz _ _ ⟨hb2, ?_⟩;clear hKz Kz;refine tw 18 29 (.bool true) ?_;refine tw 19 30 (.bool true) ?_;refine tw 20 2 (.bool true) ?_;refine AM ?_;have hN : Hid (R = true) := by unfold Hid; rw [hR.out]; unfold Ek; rw [hF.out, hG.out]; rfl
 go_wp2
 go_ret
 exact ⟨by rw [hN.out]; rfl, B0.trans ((AA hbv hb2).mono B0.size)⟩
theorem Jg (m : Mi) : Aq m = (Dq m && (m.up || Ek m)) := by
 obtain ⟨up, li, ep, L, sd, ac, al⟩ := m;unfold Aq Dq Ek Co;dsimp only
 rw [Bool.eq_iff_iff];cases up
 ·
  simp only [Bool.and_eq_true, Bool.or_eq_true, decide_eq_true_eq];constructor
  ·
   rintro ⟨h1, h2, h3, ⟨h4, h5⟩, h6, h7, h8⟩;rcases h8 with h8 | ⟨h8, h9, h10⟩
   ·
    cases h8
   exact ⟨⟨h1, h2, h3, by omega, h4, h6, h7⟩, .inr ⟨⟨trivial, h8, by omega, by omega, h10⟩, h9⟩⟩
  rintro ⟨⟨h1, h2, h3, h4, h5, h6, h7⟩, h8⟩;rcases h8 with h8 | ⟨⟨_, h8, h9, h10, h11⟩, h12⟩
  ·
   cases h8
  exact ⟨h1, h2, h3, ⟨h5, by omega⟩, h6, h7, .inr ⟨h8, h12, h11⟩⟩
 simp only [Bool.and_eq_true, Bool.true_or, Bool.and_true, decide_eq_true_eq];constructor
 ·
  rintro ⟨h1, h2, h3, ⟨h4, h5⟩, h6, h7⟩;exact ⟨h1, h2, h3, by omega, h4, h6, h7⟩
 rintro ⟨h1, h2, h3, h4, h5, h6, h7⟩;exact ⟨h1, h2, h3, ⟨h5, by omega⟩, h6, h7⟩
theorem IM (m : Mi) (ad : Option Addr) (cap : Nat) (w : World) (hv : AH AS w ad m.lg) (hl : m.lg.length ≤ 1048577) :
  Calls prog 71 #[.agg #[.bool m.up, ji m.li, ji m.ep, .slice ad m.lg.length cap, ji m.sd, ji m.ac, ji m.al]] w fun e w' => e = .returned (.bool (Aq m)) ∧ Bw w w' := by
 have hB := hv.lt Aa (by omega);obtain ⟨R, hR⟩ := AB (Aq m);rw [← hR];rw [Jg] at hR;replace hR : Hid _ := hR;obtain ⟨y, hy, B0⟩ := AI w (Obj.cells (mc m ad cap) 52);have A : Ag y w.heap.size m (.slice ad m.lg.length cap) := by rw [hy]; exact Ag.new w _ _ _
 have S0 := A.lt;have hv1 := hv.below B0 hB;clear hv;go_enter func71, ntmps71
 go_wp2_with fail
 go_at_call 98
 rw [← hy];clear hy;refine (Gl m ad cap y hv1 hl).mono ?_;rintro e u1 ⟨q, a1, c1, rfl, M1, O1, _, _, k1⟩;have hb1 := AA B0 k1;have A := A.below k1 A.lt;have hv1 := hv1.below k1 (hv1.lt Aa (by omega));clear k1;go_wp2_with fail
 go_at_call 114
 refine (LM m q a1 c1 u1 M1 O1.view.2 hl).mono ?_;rintro e u2 ⟨rfl, k2⟩;have hb2 := AA hb1 k2;have A := A.below k2 A.lt;have hv1 := hv1.below k2 (hv1.lt Aa (by omega));clear k2 hb1 M1 O1;cases hF : Dq m
 ·
  have hN : Hid (R = false) := by unfold Hid; rw [hR.out, hF]; rfl
  clear hF;go_wp2
  go_ret
  exact ⟨by rw [hN.out]; rfl, hb2⟩
 cases hU : m.up
 ·
  have hN : Hid (R = Ek m) := by unfold Hid; rw [hR.out, hF, hU]; rfl
  clear hF;obtain ⟨x0, x1, x2, x3, x4, x5, x6⟩ := id A;rw [hU] at x0;go_wp2_with fail
  go_at_call 115
  clear x0 x1 x2 x3 x4 x5 x6;rw [← hU];refine (Jm m ad cap u2 hv1 hl).mono ?_;rintro e u3 ⟨rfl, k3⟩;have hb3 := AA hb2 k3;rw [← hN.out];go_wp2
  go_ret
  exact ⟨rfl, hb3⟩
 have hN : Hid (R = true) := by unfold Hid; rw [hR.out, hF, hU]; rfl
 clear hF;obtain ⟨x0, x1, x2, x3, x4, x5, x6⟩ := A;rw [hU] at x0;go_wp2
 go_ret
 exact ⟨by rw [hN.out]; rfl, hb2⟩
end Go.Proofs.YthgcbihhdbpbdaaGreat
