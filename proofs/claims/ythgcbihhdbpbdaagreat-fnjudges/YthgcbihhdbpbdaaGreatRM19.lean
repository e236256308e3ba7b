import Derived.Test.YthgcbihhdbpbdaaGreatRM15
import Derived.Test.YthgcbihhdbpbdaaGreatRM18
namespace Go.Proofs.YthgcbihhdbpbdaaGreat
open Go.ChangeShapes Go.WideShapes Go.ChangeAt Go.RowKit
open Go.ChangeMaps (open_string shut_string)
set_option linter.unusedVariables false
set_option maxRecDepth 100000
set_option maxHeartbeats 32000000
set_option linter.unusedSimpArgs false
open Go.Proofs.Tryz
attribute [local go_sem] ji ja mc
def CS (r : Rg) (s : Int) (m : Mi) : Rg := if CT r s m then CP r s else r
def CK (r : Rg) (s : Int) (m : Mi) : Mi := if CT r s m then Bc r m else m
theorem AV.take {w : World} {q : Nat} {m : Mi} {v : Value} (h : AV w q m v) (r : Rg) : AV (((w.setCell (ja q 2) (ji (r.ep + 1))).setCell (ja q 5) (ji 0)).setCell (ja q 6) (ji 0)) q (Bc r m) v := by
 obtain ⟨h0, h1, h2, h3, h4, h5, h6, hf⟩ := h;have h0 : (w.setCell (ja q 2) (ji (r.ep + 1))).cell? (ja q 0) = _ := (AC (by decide)).trans h0;have h1 : (w.setCell (ja q 2) (ji (r.ep + 1))).cell? (ja q 1) = _ := (AC (by decide)).trans h1;have h2 : (w.setCell (ja q 2) (ji (r.ep + 1))).cell? (ja q 2) = some (ji (r.ep + 1)) := Aj h2;have h3 : (w.setCell (ja q 2) (ji (r.ep + 1))).cell? (ja q 3) = _ := (AC (by decide)).trans h3;have h4 : (w.setCell (ja q 2) (ji (r.ep + 1))).cell? (ja q 4) = _ := (AC (by decide)).trans h4;have h5 : (w.setCell (ja q 2) (ji (r.ep + 1))).cell? (ja q 5) = _ := (AC (by decide)).trans h5;have h6 : (w.setCell (ja q 2) (ji (r.ep + 1))).cell? (ja q 6) = _ := (AC (by decide)).trans h6;have h0 : ((w.setCell (ja q 2) (ji (r.ep + 1))).setCell (ja q 5) (ji 0)).cell? (ja q 0) = _ := (AC (by decide)).trans h0;have h1 : ((w.setCell (ja q 2) (ji (r.ep + 1))).setCell (ja q 5) (ji 0)).cell? (ja q 1) = _ := (AC (by decide)).trans h1;have h2 : ((w.setCell (ja q 2) (ji (r.ep + 1))).setCell (ja q 5) (ji 0)).cell? (ja q 2) = _ := (AC (by decide)).trans h2;have h3 : ((w.setCell (ja q 2) (ji (r.ep + 1))).setCell (ja q 5) (ji 0)).cell? (ja q 3) = _ := (AC (by decide)).trans h3;have h4 : ((w.setCell (ja q 2) (ji (r.ep + 1))).setCell (ja q 5) (ji 0)).cell? (ja q 4) = _ := (AC (by decide)).trans h4;have h5 : ((w.setCell (ja q 2) (ji (r.ep + 1))).setCell (ja q 5) (ji 0)).cell? (ja q 5) = some (ji 0) := Aj h5;have h6 : ((w.setCell (ja q 2) (ji (r.ep + 1))).setCell (ja q 5) (ji 0)).cell? (ja q 6) = _ := (AC (by decide)).trans h6;have h0 : (((w.setCell (ja q 2) (ji (r.ep + 1))).setCell (ja q 5) (ji 0)).setCell (ja q 6) (ji 0)).cell? (ja q 0) = _ := (AC (by decide)).trans h0;have h1 : (((w.setCell (ja q 2) (ji (r.ep + 1))).setCell (ja q 5) (ji 0)).setCell (ja q 6) (ji 0)).cell? (ja q 1) = _ := (AC (by decide)).trans h1;have h2 : (((w.setCell (ja q 2) (ji (r.ep + 1))).setCell (ja q 5) (ji 0)).setCell (ja q 6) (ji 0)).cell? (ja q 2) = _ := (AC (by decide)).trans h2;have h3 : (((w.setCell (ja q 2) (ji (r.ep + 1))).setCell (ja q 5) (ji 0)).setCell (ja q 6) (ji 0)).cell? (ja q 3) = _ := (AC (by decide)).trans h3;have h4 : (((w.setCell (ja q 2) (ji (r.ep + 1))).setCell (ja q 5) (ji 0)).setCell (ja q 6) (ji 0)).cell? (ja q 4) = _ := (AC (by decide)).trans h4;have h5 : (((w.setCell (ja q 2) (ji (r.ep + 1))).setCell (ja q 5) (ji 0)).setCell (ja q 6) (ji 0)).cell? (ja q 5) = _ := (AC (by decide)).trans h5;have h6 : (((w.setCell (ja q 2) (ji (r.ep + 1))).setCell (ja q 5) (ji 0)).setCell (ja q 6) (ji 0)).cell? (ja q 6) = some (ji 0) := Aj h6;refine ⟨h0, h1, h2, h3, h4, h5, h6, fun i => ?_⟩;rw [World.frozen?_setCell, World.frozen?_setCell, World.frozen?_setCell];exact hf i
theorem J4 (r : Rg) (s : Int) (m : Mi) (ad : Option Addr) (cap : Nat) (w : World) (hv : AH AS w ad m.lg) (hl : m.lg.length ≤ 1048577) (hn : ad = none → cap = 0) :
  Calls prog 201 #[.agg #[ji r.ep, ji r.ow, ji r.pa], ji s, .agg #[.bool m.up, ji m.li, ji m.ep, .slice ad m.lg.length cap, ji m.sd, ji m.ac, ji m.al]] w fun e w' => ∃ a c, e = .returned (.tuple #[.agg #[ji (CS r s m).ep, ji (CS r s m).ow, ji (CS r s m).pa], .agg #[.bool (CK r s m).up, ji (CK r s m).li, ji (CK r s m).ep, .slice a m.lg.length c, ji (CK r s m).sd, ji (CK r s m).ac, ji (CK r s m).al], .bool (CT r s m)]) ∧ AD AS 8 64 w.heap.size w' (.slice a m.lg.length c) m.lg ∧ Bw w w' := by
 have hB := hv.lt Aa (by omega);obtain ⟨y, hy⟩ := AB ((((w.alloc (Obj.cells #[ji r.ep, ji r.ow, ji r.pa] 27)).alloc (Obj.cells (mc m ad cap) 52)).alloc (Obj.cells #[ji 0, ji 0, ji 0] 27)).alloc (Obj.cells #[.bool false, ji 0, ji 0, .slice none 0 0, ji 0, ji 0, ji 0] 52));have B0 : Bw w y := by rw [hy]; exact ((((Below.refl _ _).alloc (Nat.le_refl _) _).alloc (by simp) _).alloc (by simp; omega) _).alloc (by simp; omega) _
 have A : BJ y w.heap.size r := by rw [hy]; refine ⟨?_, fun i => ?_⟩; constructor <;> simp [go_sem]; simp [go_sem]
 have M : Ag y (w.heap.size + 1) m (.slice ad m.lg.length cap) := by rw [hy]; constructor <;> simp [go_sem]
 have Z2 : BJ y (w.heap.size + 1 + 1) ⟨0, 0, 0⟩ := by rw [hy]; refine ⟨?_, fun i => ?_⟩; constructor <;> simp [go_sem]; simp [go_sem]
 have Z3 : AV y (w.heap.size + 1 + 1 + 1) ⟨false, 0, 0, [], 0, 0, 0⟩ (.slice none 0 0) := by rw [hy]; constructor <;> simp [go_sem]
 have S0 := Z3.lt;have hv1 := hv.below B0 hB;have HV : ∀ a, ad = some a → 0 < m.lg.length → a.block < y.heap.size := hv1.lt Aa (by omega);clear hv hB;go_enter func201, ntmps201
 have x0 := M.all;go_wp2_with fail
 go_at_call 105
 rw [← hy];clear x0 hy;refine (Ej m ad cap y hv1 hl hn).mono ?_;rintro e u1 ⟨a1, c1, rfl, O1, k1⟩;have B1 := AA B0 k1;have A := A.below k1 A.lt;have M := M.below k1 M.lt;have Z2 := Z2.below k1 Z2.lt;have Z3 := Z3.below k1 Z3.lt;have hv1 := hv1.below k1 (hv1.lt Aa (by omega));have s1 := k1.size;have lo1 := O1.lt;clear k1 B0;obtain ⟨u2, hu2, k2⟩ := AI u1 (Obj.cells (mc m a1 c1) 52);have N : AV u2 u1.heap.size m (.slice a1 m.lg.length c1) := by rw [hu2]; exact AV.new u1 _ _ _
 have B2 := AA B1 k2;have A := A.below k2 A.lt;have M := M.below k2 M.lt;have Z2 := Z2.below k2 Z2.lt;have Z3 := Z3.below k2 Z3.lt;have O1 := O1.later k2;have hv1 := hv1.below k2 (hv1.lt Aa (by omega));have s2 := N.lt;go_upto_region 2 with fail
 rw [← hu2];clear hu2 k2 B1;obtain ⟨q, hq⟩ := AB u1.heap.size;rw [← hq] at N s1 s2 lo1 ⊢;clear hq;obtain ⟨⟨x0, x1, x2⟩, xf⟩ := id A;go_wp2_with fail
 go_at_call 55
 clear x0 x1 x2 xf;refine (Fv r u2).mono ?_;rintro e u3 ⟨rfl, k3⟩;have A := A.below k3 A.lt;have M := M.below k3 M.lt;have Z2 := Z2.below k3 Z2.lt;have Z3 := Z3.below k3 Z3.lt;have N := N.below k3 N.lt;have O1 := O1.later k3;have hv1 := hv1.below k3 (hv1.lt Aa (by omega));have B3 := AA B2 k3;have s3 := k3.size;clear k3 B2;cases h1 : BR r
 focus
  have hT : Hid (CT r s m = false) := by unfold Hid CT; rw [show DM r s m = false by unfold DM; rw [h1]; rfl]; rfl
  have hTR : Hid (CS r s m = r) := by unfold Hid CS; rw [hT.out]; rfl
  have hTM : Hid (CK r s m = m) := by unfold Hid CK; rw [hT.out]; rfl
  have FR := A.at_;have FM := N.at_;go_upto_region 3 with fail
  refine AR (fun Y => An Y w.heap.size r ∧ Ag Y q m (.slice a1 m.lg.length c1)) fun u0 kd => ?_
  have hs0 : An u0 w.heap.size r ∧ Ag u0 q m (.slice a1 m.lg.length c1) := ⟨FR.below kd FR.lt, FM.below kd FM.lt⟩;have Z2 := Z2.below kd Z2.lt;have Z3 := Z3.below kd Z3.lt;have O1 := O1.later kd;have Bd := AA B3 kd
 rotate_left;focus
  replace h1 : Hid _ := h1;have n0 := M.all;go_wp2_with fail
  go_at_call 56
  clear n0;refine (E9 m ad cap u3 hv1 hl).mono ?_;rintro e u4 ⟨rfl, k4⟩;have A := A.below k4 A.lt;have M := M.below k4 M.lt;have Z2 := Z2.below k4 Z2.lt;have Z3 := Z3.below k4 Z3.lt;have N := N.below k4 N.lt;have O1 := O1.later k4;have hv1 := hv1.below k4 (hv1.lt Aa (by omega));have B4 := AA B3 k4;have s4 := k4.size;clear k4 B3;cases h2 : Aq m
  focus
   have hT : Hid (CT r s m = false) := by unfold Hid CT; rw [show DM r s m = false by unfold DM; rw [h1.out, h2]; rfl]; rfl
   have hTR : Hid (CS r s m = r) := by unfold Hid CS; rw [hT.out]; rfl
   have hTM : Hid (CK r s m = m) := by unfold Hid CK; rw [hT.out]; rfl
   have FR := A.at_;have FM := N.at_;go_upto_region 3 with fail
   refine AR (fun Y => An Y w.heap.size r ∧ Ag Y q m (.slice a1 m.lg.length c1)) fun u0 kd => ?_
   have hs0 : An u0 w.heap.size r ∧ Ag u0 q m (.slice a1 m.lg.length c1) := ⟨FR.below kd FR.lt, FM.below kd FM.lt⟩;have Z2 := Z2.below kd Z2.lt;have Z3 := Z3.below kd Z3.lt;have O1 := O1.later kd;have Bd := AA B4 kd
  rotate_left;focus
   replace h2 : Hid _ := h2;cases h3 : m.up
   focus
    have hT : Hid (CT r s m = false) := by unfold Hid CT; rw [show DM r s m = false by unfold DM; rw [h1.out, h2.out, h3]; rfl]; rfl
    have hTR : Hid (CS r s m = r) := by unfold Hid CS; rw [hT.out]; rfl
    have hTM : Hid (CK r s m = m) := by unfold Hid CK; rw [hT.out]; rfl
    obtain ⟨n0, n1, n2, n3, n4, n5, n6⟩ := id M;rw [h3] at n0;replace h3 : Hid _ := h3;have FR := A.at_;have FM := N.at_;go_upto_region 3 with fail
    refine AR (fun Y => An Y w.heap.size r ∧ Ag Y q m (.slice a1 m.lg.length c1)) fun u0 kd => ?_
    have hs0 : An u0 w.heap.size r ∧ Ag u0 q m (.slice a1 m.lg.length c1) := ⟨FR.below kd FR.lt, FM.below kd FM.lt⟩;have Z2 := Z2.below kd Z2.lt;have Z3 := Z3.below kd Z3.lt;have O1 := O1.later kd;have Bd := AA B4 kd
   rotate_left;focus
    obtain ⟨n0, n1, n2, n3, n4, n5, n6⟩ := id M;rw [h3] at n0;go_wp2_with fail
    go_at_call 65
    clear n0 n1 n2 n3 n4 n5 n6;refine (BM s 0 1 u4).mono ?_;rintro e u5 ⟨rfl, hw_⟩;rw [hw_];clear hw_;replace h3 : Hid _ := h3;cases h4 : decide (0 ≤ s ∧ s ≤ 1)
    focus
     have hT : Hid (CT r s m = false) := by unfold Hid CT; rw [show DM r s m = false by unfold DM; rw [h1.out, h2.out, h3.out, h4]; rfl]; rfl
     have hTR : Hid (CS r s m = r) := by unfold Hid CS; rw [hT.out]; rfl
     have hTM : Hid (CK r s m = m) := by unfold Hid CK; rw [hT.out]; rfl
     clear h4;have n0 := M.all;obtain ⟨⟨x0, x1, x2⟩, xf⟩ := id A;clear xf;have FR := A.at_;have FM := N.at_;go_upto_region 3 with fail
     refine AR (fun Y => An Y w.heap.size r ∧ Ag Y q m (.slice a1 m.lg.length c1)) fun u0 kd => ?_
     have hs0 : An u0 w.heap.size r ∧ Ag u0 q m (.slice a1 m.lg.length c1) := ⟨FR.below kd FR.lt, FM.below kd FM.lt⟩;have Z2 := Z2.below kd Z2.lt;have Z3 := Z3.below kd Z3.lt;have O1 := O1.later kd;have Bd := AA B4 kd
    rotate_left;focus
     replace h4 : Hid _ := h4;by_cases h5 : s = r.ow
     focus
      have d5 : (s == r.ow) = true := by simpa using h5
      have hT : Hid (CT r s m = false) := by unfold Hid CT; rw [show DM r s m = false by unfold DM; rw [h1.out, h2.out, h3.out, h4.out, decide_eq_false (show ¬ (s ≠ r.ow) from fun e => e h5)]; rfl]; rfl
      have hTR : Hid (CS r s m = r) := by unfold Hid CS; rw [hT.out]; rfl
      have hTM : Hid (CK r s m = m) := by unfold Hid CK; rw [hT.out]; rfl
      replace h5 : Hid _ := h5;have n0 := M.all;obtain ⟨⟨x0, x1, x2⟩, xf⟩ := id A;clear xf;have FR := A.at_;have FM := N.at_;go_upto_region 3 with fail
      refine AR (fun Y => An Y w.heap.size r ∧ Ag Y q m (.slice a1 m.lg.length c1)) fun u0 kd => ?_
      have hs0 : An u0 w.heap.size r ∧ Ag u0 q m (.slice a1 m.lg.length c1) := ⟨FR.below kd FR.lt, FM.below kd FM.lt⟩;have Z2 := Z2.below kd Z2.lt;have Z3 := Z3.below kd Z3.lt;have O1 := O1.later kd;have Bd := AA B4 kd
     rotate_left;focus
      have d5 : (s == r.ow) = false := by rw [beq_eq_false_iff_ne]; exact h5
      replace h5 : Hid (¬ s = r.ow) := h5;by_cases h6 : 0 < m.li
      focus
       have d6 : decide (m.li ≤ 0) = false := decide_eq_false (by omega);replace h6 : Hid _ := h6;by_cases h7 : m.li = r.pa
       ·
        have d7 : (m.li != r.pa) = false := by simpa using h7
        replace h7 : Hid _ := h7;have n0 := M.all;obtain ⟨⟨x0, x1, x2⟩, xf⟩ := id A;clear xf;go_upto_region 4 with fail
        clear n0 x0 x1 x2;have hG : DM r s m = true := by unfold DM; rw [h1.out, h2.out, h3.out, h4.out, decide_eq_true (show s ≠ r.ow from h5.out), decide_eq_true h6.out, decide_eq_true h7.out]; rfl
        replace hG : Hid _ := hG;have hre := (Ja.1 h1.out).1;obtain ⟨hre0, hre1⟩ := hre;obtain ⟨⟨x0, x1, x2⟩, xf⟩ := id A;clear xf;obtain ⟨u5, hu5, k5⟩ := AI u4 (Obj.cells #[ji (r.ep + 1), ji s, ji 0] 27);have X : An u5 u4.heap.size (CP r s) := by rw [hu5]; exact An.new u4 _ (CP r s)
        have B5 := AA B4 k5;have A := A.below k5 A.lt;have M := M.below k5 M.lt;have Z2 := Z2.below k5 Z2.lt;have Z3 := Z3.below k5 Z3.lt;have N := N.below k5 N.lt;have O1 := O1.later k5;have hv1 := hv1.below k5 (hv1.lt Aa (by omega));have s5 := X.lt;go_upto_region 5 with fail
        rw [← hu5];clear hu5 k5 B4 x0 x1 x2;obtain ⟨qx, hqx⟩ := AB u4.heap.size;rw [← hqx] at X s5 ⊢;have hqq : q < qx := by omega
        clear hqx;obtain ⟨u6, hu6⟩ := AB (((u5.setCell (ja q 2) (ji (r.ep + 1))).setCell (ja q 5) (ji 0)).setCell (ja q 6) (ji 0));have N6 : AV u6 q (Bc r m) (.slice a1 m.lg.length c1) := by rw [hu6]; exact N.take r
        have kp : ∀ k, k ≠ q → u6.heap[k]? = u5.heap[k]? := fun k hk => by rw [hu6, AE hk, AE hk, AE hk]
        have A := A.keep (kp _ (by omega));have M := M.keep (kp _ (by omega));have Z2 := Z2.keep (kp _ (by omega));have Z3 := Z3.keep (kp _ (by omega));have X6 := X.keep (kp _ (by omega));have O1 := O1.keep (fun g e => kp g (by have := lo1 g e; omega));have hv1 := hv1.carry (fun a e p => kp _ (by have := HV a e p; omega));have B6 : Bw w u6 := by rw [hu6]; exact ((B5.setCell (p := (ja q 2)) (by show _ ≤ q; omega) _).setCell (p := (ja q 5)) (by show _ ≤ q; omega) _).setCell (p := (ja q 6)) (by show _ ≤ q; omega) _
        have s6 : u5.heap.size ≤ u6.heap.size := by rw [hu6]; simp
        obtain ⟨x0, x1, x2⟩ := X;obtain ⟨n0, n1, n2, n3, n4, n5, n6, nf⟩ := N;have f2 := nf 2;have f5 := nf 5;have f6 := nf 6;clear nf kp;dsimp only [CP] at x0 x1 x2;go_upto_region 8 with fail
        rw [← hu6];clear hu6 x0 x1 x2 n0 n1 n2 n3 n4 n5 n6 f2 f5 f6 B5;have N := N6;have X := X6;clear N6 X6;have x0 := X.all;go_wp2_with fail
        go_at_call 55
        clear x0;refine (Fv (CP r s) u6).mono ?_;rintro e u7 ⟨rfl, k7⟩;have A := A.below k7 A.lt;have M := M.below k7 M.lt;have Z2 := Z2.below k7 Z2.lt;have Z3 := Z3.below k7 Z3.lt;have N := N.below k7 N.lt;have O1 := O1.later k7;have hv1 := hv1.below k7 (hv1.lt Aa (by omega));have X := X.below k7 X.lt;have B7 := AA B6 k7;have s7 := k7.size;clear k7 B6;cases h8 : BR (CP r s)
        focus
         have hT : Hid (CT r s m = false) := by unfold Hid CT; rw [hG.out, h8]; rfl
         have hTR : Hid (CS r s m = r) := by unfold Hid CS; rw [hT.out]; rfl
         have hTM : Hid (CK r s m = m) := by unfold Hid CK; rw [hT.out]; rfl
         have FR := A.at_;have FM := M;go_upto_region 9 with fail
         refine AR (fun Y => An Y w.heap.size r ∧ Ag Y (w.heap.size + 1) m (.slice ad m.lg.length cap)) fun u0 kd => ?_
         have hs0 : An u0 w.heap.size r ∧ Ag u0 (w.heap.size + 1) m (.slice ad m.lg.length cap) := ⟨FR.below kd FR.lt, FM.below kd FM.lt⟩;have Z2 := Z2.below kd Z2.lt;have Z3 := Z3.below kd Z3.lt;have O1 := O1.later kd;have Bd := AA B7 kd
        rotate_left;focus
         replace h8 : Hid _ := h8;have n0 := N.all;go_wp2_with fail
         go_at_call 56
         clear n0;refine (E9 (Bc r m) a1 c1 u7 O1.view.2 (by show m.lg.length ≤ _; exact hl)).mono ?_;rintro e u8 ⟨rfl, k8⟩;have A := A.below k8 A.lt;have M := M.below k8 M.lt;have Z2 := Z2.below k8 Z2.lt;have Z3 := Z3.below k8 Z3.lt;have N := N.below k8 N.lt;have O1 := O1.later k8;have hv1 := hv1.below k8 (hv1.lt Aa (by omega));have X := X.below k8 X.lt;have B8 := AA B7 k8;have s8 := k8.size;clear k8 B7;cases h9 : Aq (Bc r m)
         focus
          have hT : Hid (CT r s m = false) := by unfold Hid CT; rw [hG.out, h8.out, h9]; rfl
          have hTR : Hid (CS r s m = r) := by unfold Hid CS; rw [hT.out]; rfl
          have hTM : Hid (CK r s m = m) := by unfold Hid CK; rw [hT.out]; rfl
          have FR := A.at_;have FM := M;go_upto_region 9 with fail
          refine AR (fun Y => An Y w.heap.size r ∧ Ag Y (w.heap.size + 1) m (.slice ad m.lg.length cap)) fun u0 kd => ?_
          have hs0 : An u0 w.heap.size r ∧ Ag u0 (w.heap.size + 1) m (.slice ad m.lg.length cap) := ⟨FR.below kd FR.lt, FM.below kd FM.lt⟩;have Z2 := Z2.below kd Z2.lt;have Z3 := Z3.below kd Z3.lt;have O1 := O1.later kd;have Bd := AA B8 kd
         rotate_left
         ·
          have hT : Hid (CT r s m = true) := by unfold Hid CT; rw [hG.out, h8.out, h9]; rfl
          have hTR : Hid (CS r s m = CP r s) := by unfold Hid CS; rw [hT.out]; rfl
          have hTM : Hid (CK r s m = Bc r m) := by unfold Hid CK; rw [hT.out]; rfl
          have FR := X;have FM := N.at_;go_upto_region 10 with fail
          refine AR (fun Y => An Y qx (CP r s) ∧ Ag Y q (Bc r m) (.slice a1 m.lg.length c1)) fun u0 kd => ?_
          have hs0 : An u0 qx (CP r s) ∧ Ag u0 q (Bc r m) (.slice a1 m.lg.length c1) := ⟨FR.below kd FR.lt, FM.below kd FM.lt⟩;have Z2 := Z2.below kd Z2.lt;have Z3 := Z3.below kd Z3.lt;have O1 := O1.later kd;have Bd := AA B8 kd;have lo := O1.lt;refine tw 0 72 (.agg #[ji (CP r s).ep, ji (CP r s).ow, ji (CP r s).pa]) ?_ (hy := by intro Y hSw; obtain ⟨⟨X0, X1, X2⟩, _⟩ := hSw; go_simp);refine tw 1 73 (.agg #[.bool (Bc r m).up, ji (Bc r m).li, ji (Bc r m).ep, .slice a1 m.lg.length c1, ji (Bc r m).sd, ji (Bc r m).ac, ji (Bc r m).al]) ?_ (hy := by intro Y hSw; obtain ⟨_, X0, X1, X2, X3, X4, X5, X6⟩ := hSw; go_simp);refine w1 2 fun Kz hKz => ?_
          obtain ⟨⟨z0, z1, z2⟩, zf⟩ := id Z2;have g0 := zf 0;have g1 := zf 1;have g2 := zf 2;go_simp
          clear z0 z1 z2 zf g0 g1 g2;obtain ⟨u2, hu2⟩ := AB (((u0.setCell ⟨w.heap.size + 1 + 1, 0, none⟩ (ji (CP r s).ep)).setCell ⟨w.heap.size + 1 + 1, 1, none⟩ (ji (CP r s).ow)).setCell ⟨w.heap.size + 1 + 1, 2, none⟩ (ji (CP r s).pa));have Q2 : BJ u2 (w.heap.size + 1 + 1) (CP r s) := by rw [hu2]; exact Z2.put (CP r s)
          have kp : ∀ k, k ≠ w.heap.size + 1 + 1 → u2.heap[k]? = u0.heap[k]? := fun k hk => by rw [hu2]; exact GT _ _ _ (CP r s) hk
          have hs2 : An u2 qx (CP r s) ∧ Ag u2 q (Bc r m) (.slice a1 m.lg.length c1) := ⟨hs0.1.keep (kp _ (by omega)), hs0.2.keep (kp _ (by omega))⟩;have Z3 := Z3.keep (kp _ (by omega));have O1 := O1.keep (fun g e => kp g (by have := lo g e; omega));have Bd : Bw w u2 := by rw [hu2]; exact FI (CP r s) Bd (by omega)
          rw [← hu2];clear hu2 kp;refine hKz _ _ ⟨hs2, ?_⟩;clear hKz Kz;refine w1 3 fun Kz hKz => ?_
          obtain ⟨z0, z1, z2, z3, z4, z5, z6, zf⟩ := id Z3;have g0 := zf 0;have g1 := zf 1;have g2 := zf 2;have g3 := zf 3;have g4 := zf 4;have g5 := zf 5;have g6 := zf 6;go_simp
          clear z0 z1 z2 z3 z4 z5 z6 zf g0 g1 g2 g3 g4 g5 g6;obtain ⟨u3, hu3⟩ := AB (((((((u2.setCell ⟨w.heap.size + 1 + 1 + 1, 0, none⟩ (.bool (Bc r m).up)).setCell ⟨w.heap.size + 1 + 1 + 1, 1, none⟩ (ji (Bc r m).li)).setCell ⟨w.heap.size + 1 + 1 + 1, 2, none⟩ (ji (Bc r m).ep)).setCell ⟨w.heap.size + 1 + 1 + 1, 3, none⟩ (.slice a1 m.lg.length c1)).setCell ⟨w.heap.size + 1 + 1 + 1, 4, none⟩ (ji (Bc r m).sd)).setCell ⟨w.heap.size + 1 + 1 + 1, 5, none⟩ (ji (Bc r m).ac)).setCell ⟨w.heap.size + 1 + 1 + 1, 6, none⟩ (ji (Bc r m).al));have Q3 : AV u3 (w.heap.size + 1 + 1 + 1) (Bc r m) (.slice a1 m.lg.length c1) := by rw [hu3]; exact Z3.put (Bc r m) _
          have kp : ∀ k, k ≠ w.heap.size + 1 + 1 + 1 → u3.heap[k]? = u2.heap[k]? := fun k hk => by rw [hu3]; exact Dd _ _ _ (Bc r m) _ hk
          have hs3 : An u3 qx (CP r s) ∧ Ag u3 q (Bc r m) (.slice a1 m.lg.length c1) := ⟨hs2.1.keep (kp _ (by omega)), hs2.2.keep (kp _ (by omega))⟩;have Q2 := Q2.keep (kp _ (by omega));have O1 := O1.keep (fun g e => kp g (by have := lo g e; omega));have Bd : Bw w u3 := by rw [hu3]; exact EJ (Bc r m) _ Bd (by omega)
          rw [← hu3];clear hu3 kp;refine hKz _ _ ⟨hs3, ?_⟩;clear hKz Kz;refine tw 4 8 (.bool true) ?_;refine AM ?_;have OZ := O1.base (base' := w.heap.size) (by omega);obtain ⟨⟨q0, q1, q2⟩, qf⟩ := Q2;replace Q3 := Q3.all;clear qf hs3 O1;go_wp2
          refine bodyPost_ret (v := .tuple #[.agg #[ji (CP r s).ep, ji (CP r s).ow, ji (CP r s).pa], .agg #[.bool (Bc r m).up, ji (Bc r m).li, ji (Bc r m).ep, .slice a1 m.lg.length c1, ji (Bc r m).sd, ji (Bc r m).ac, ji (Bc r m).al], .bool true]) (by simp [results, results201, go_sem, *]) rfl ⟨a1, c1, by rw [hTR.out, hTM.out, hT.out], OZ, Bd⟩
        rotate_left;all_goals
         have lo := O1.lt;refine tw 0 69 (.agg #[ji r.ep, ji r.ow, ji r.pa]) ?_ (hy := by intro Y hSw; obtain ⟨⟨X0, X1, X2⟩, _⟩ := hSw; go_simp);refine tw 1 70 (.agg (mc m ad cap)) ?_ (hy := by intro Y hSw; obtain ⟨_, X0, X1, X2, X3, X4, X5, X6⟩ := hSw; go_simp);refine w1 2 fun Kz hKz => ?_
         go_simp
         go_at_call 105
         refine (Ej m ad cap u0 (hv1.below kd (hv1.lt Aa (by omega))) hl hn).mono ?_;rintro e u1 ⟨a7, c7, rfl, O7, k7⟩;have hs1 : An u1 w.heap.size r ∧ Ag u1 (w.heap.size + 1) m (.slice ad m.lg.length cap) := ⟨hs0.1.below k7 hs0.1.lt, hs0.2.below k7 hs0.2.lt⟩;have Z2 := Z2.below k7 Z2.lt;have Z3 := Z3.below k7 Z3.lt;have Bd := AA Bd k7;have lo := O7.lt;have kds := kd.size;clear k7;refine hKz _ _ ⟨hs1, ?_⟩;clear hKz Kz;refine w1 3 fun Kz hKz => ?_
         obtain ⟨⟨z0, z1, z2⟩, zf⟩ := id Z2;have g0 := zf 0;have g1 := zf 1;have g2 := zf 2;go_simp
         clear z0 z1 z2 zf g0 g1 g2;obtain ⟨u2, hu2⟩ := AB (((u1.setCell ⟨w.heap.size + 1 + 1, 0, none⟩ (ji r.ep)).setCell ⟨w.heap.size + 1 + 1, 1, none⟩ (ji r.ow)).setCell ⟨w.heap.size + 1 + 1, 2, none⟩ (ji r.pa));have Q2 : BJ u2 (w.heap.size + 1 + 1) r := by rw [hu2]; exact Z2.put r
         have kp : ∀ k, k ≠ w.heap.size + 1 + 1 → u2.heap[k]? = u1.heap[k]? := fun k hk => by rw [hu2]; exact GT _ _ _ r hk
         have hs2 : An u2 w.heap.size r ∧ Ag u2 (w.heap.size + 1) m (.slice ad m.lg.length cap) := ⟨hs1.1.keep (kp _ (by omega)), hs1.2.keep (kp _ (by omega))⟩;have Z3 := Z3.keep (kp _ (by omega));have O7 := O7.keep (fun g e => kp g (by have := lo g e; omega));have Bd : Bw w u2 := by rw [hu2]; exact FI r Bd (by omega)
         rw [← hu2];clear hu2 kp;refine hKz _ _ ⟨hs2, ?_⟩;clear hKz Kz;refine w1 4 fun Kz hKz => ?_
         obtain ⟨z0, z1, z2, z3, z4, z5, z6, zf⟩ := id Z3;have g0 := zf 0;have g1 := zf 1;have g2 := zf 2;have g3 := zf 3;have g4 := zf 4;have g5 := zf 5;have g6 := zf 6;go_simp
         clear z0 z1 z2 z3 z4 z5 z6 zf g0 g1 g2 g3 g4 g5 g6;obtain ⟨u3, hu3⟩ := AB (((((((u2.setCell ⟨w.heap.size + 1 + 1 + 1, 0, none⟩ (.bool m.up)).setCell ⟨w.heap.size + 1 + 1 + 1, 1, none⟩ (ji m.li)).setCell ⟨w.heap.size + 1 + 1 + 1, 2, none⟩ (ji m.ep)).setCell ⟨w.heap.size + 1 + 1 + 1, 3, none⟩ (.slice a7 m.lg.length c7)).setCell ⟨w.heap.size + 1 + 1 + 1, 4, none⟩ (ji m.sd)).setCell ⟨w.heap.size + 1 + 1 + 1, 5, none⟩ (ji m.ac)).setCell ⟨w.heap.size + 1 + 1 + 1, 6, none⟩ (ji m.al));have Q3 : AV u3 (w.heap.size + 1 + 1 + 1) m (.slice a7 m.lg.length c7) := by rw [hu3]; exact Z3.put m _
         have kp : ∀ k, k ≠ w.heap.size + 1 + 1 + 1 → u3.heap[k]? = u2.heap[k]? := fun k hk => by rw [hu3]; exact Dd _ _ _ m _ hk
         have hs3 : An u3 w.heap.size r ∧ Ag u3 (w.heap.size + 1) m (.slice ad m.lg.length cap) := ⟨hs2.1.keep (kp _ (by omega)), hs2.2.keep (kp _ (by omega))⟩;have Q2 := Q2.keep (kp _ (by omega));have O7 := O7.keep (fun g e => kp g (by have := lo g e; omega));have Bd : Bw w u3 := by rw [hu3]; exact EJ m _ Bd (by omega)
         rw [← hu3];clear hu3 kp;refine hKz _ _ ⟨hs3, ?_⟩;clear hKz Kz;refine tw 5 8 (.bool false) ?_;refine AM ?_;have OZ := O7.base (base' := w.heap.size) (by omega);obtain ⟨⟨q0, q1, q2⟩, qf⟩ := Q2;replace Q3 := Q3.all;clear qf hs3 O7;go_wp2
         refine bodyPost_ret (v := .tuple #[.agg #[ji r.ep, ji r.ow, ji r.pa], .agg (mc m a7 c7), .bool false]) (by simp [results, results201, go_sem, *]) rfl ⟨a7, c7, by rw [hTR.out, hTM.out, hT.out], OZ, Bd⟩
       focus
        have d7 : (m.li != r.pa) = true := by simpa using h7
        have hT : Hid (CT r s m = false) := by unfold Hid CT; rw [show DM r s m = false by unfold DM; rw [h1.out, h2.out, h3.out, h4.out, decide_eq_true (show s ≠ r.ow from h5.out), decide_eq_true h6.out, decide_eq_false h7]; rfl]; rfl
        have hTR : Hid (CS r s m = r) := by unfold Hid CS; rw [hT.out]; rfl
        have hTM : Hid (CK r s m = m) := by unfold Hid CK; rw [hT.out]; rfl
        clear h7;have n0 := M.all;obtain ⟨⟨x0, x1, x2⟩, xf⟩ := id A;clear xf;have FR := A.at_;have FM := N.at_;go_upto_region 3 with fail
        refine AR (fun Y => An Y w.heap.size r ∧ Ag Y q m (.slice a1 m.lg.length c1)) fun u0 kd => ?_
        have hs0 : An u0 w.heap.size r ∧ Ag u0 q m (.slice a1 m.lg.length c1) := ⟨FR.below kd FR.lt, FM.below kd FM.lt⟩;have Z2 := Z2.below kd Z2.lt;have Z3 := Z3.below kd Z3.lt;have O1 := O1.later kd;have Bd := AA B4 kd
       rotate_left
      rotate_left;focus
       have d6 : decide (m.li ≤ 0) = true := decide_eq_true (by omega);have hT : Hid (CT r s m = false) := by unfold Hid CT; rw [show DM r s m = false by unfold DM; rw [h1.out, h2.out, h3.out, h4.out, decide_eq_true (show s ≠ r.ow from h5.out), decide_eq_false h6]; rfl]; rfl
       have hTR : Hid (CS r s m = r) := by unfold Hid CS; rw [hT.out]; rfl
       have hTM : Hid (CK r s m = m) := by unfold Hid CK; rw [hT.out]; rfl
       clear h6;have n0 := M.all;obtain ⟨⟨x0, x1, x2⟩, xf⟩ := id A;clear xf;have FR := A.at_;have FM := N.at_;go_upto_region 3 with fail
       refine AR (fun Y => An Y w.heap.size r ∧ Ag Y q m (.slice a1 m.lg.length c1)) fun u0 kd => ?_
       have hs0 : An u0 w.heap.size r ∧ Ag u0 q m (.slice a1 m.lg.length c1) := ⟨FR.below kd FR.lt, FM.below kd FM.lt⟩;have Z2 := Z2.below kd Z2.lt;have Z3 := Z3.below kd Z3.lt;have O1 := O1.later kd;have Bd := AA B4 kd
      rotate_left
     rotate_left 2
    rotate_left 3
   rotate_left 4
  rotate_left 5
 rotate_left 6;all_goals
  have lo := O1.lt;refine tw 0 49 (.agg #[ji r.ep, ji r.ow, ji r.pa]) ?_ (hy := by intro Y hSw; obtain ⟨⟨X0, X1, X2⟩, _⟩ := hSw; go_simp);refine tw 1 50 (.agg (mc m a1 c1)) ?_ (hy := by intro Y hSw; obtain ⟨_, X0, X1, X2, X3, X4, X5, X6⟩ := hSw; go_simp);refine w1 2 fun Kz hKz => ?_
  obtain ⟨⟨z0, z1, z2⟩, zf⟩ := id Z2;have g0 := zf 0;have g1 := zf 1;have g2 := zf 2;go_simp
  clear z0 z1 z2 zf g0 g1 g2;obtain ⟨u2, hu2⟩ := AB (((u0.setCell ⟨w.heap.size + 1 + 1, 0, none⟩ (ji r.ep)).setCell ⟨w.heap.size + 1 + 1, 1, none⟩ (ji r.ow)).setCell ⟨w.heap.size + 1 + 1, 2, none⟩ (ji r.pa));have Q2 : BJ u2 (w.heap.size + 1 + 1) r := by rw [hu2]; exact Z2.put r
  have kp : ∀ k, k ≠ w.heap.size + 1 + 1 → u2.heap[k]? = u0.heap[k]? := fun k hk => by rw [hu2]; exact GT _ _ _ r hk
  have hs2 : An u2 w.heap.size r ∧ Ag u2 q m (.slice a1 m.lg.length c1) := ⟨hs0.1.keep (kp _ (by omega)), hs0.2.keep (kp _ (by omega))⟩;have Z3 := Z3.keep (kp _ (by omega));have O1 := O1.keep (fun g e => kp g (by have := lo g e; omega));have Bd : Bw w u2 := by rw [hu2]; exact FI r Bd (by omega)
  rw [← hu2];clear hu2 kp;refine hKz _ _ ⟨hs2, ?_⟩;clear hKz Kz;refine w1 3 fun Kz hKz => ?_
  obtain ⟨z0, z1, z2, z3, z4, z5, z6, zf⟩ := id Z3;have g0 := zf 0;have g1 := zf 1;have g2 := zf 2;have g3 := zf 3;have g4 := zf 4;have g5 := zf 5;have g6 := zf 6;go_simp
  clear z0 z1 z2 z3 z4 z5 z6 zf g0 g1 g2 g3 g4 g5 g6;obtain ⟨u3, hu3⟩ := AB (((((((u2.setCell ⟨w.heap.size + 1 + 1 + 1, 0, none⟩ (.bool m.up)).setCell ⟨w.heap.size + 1 + 1 + 1, 1, none⟩ (ji m.li)).setCell ⟨w.heap.size + 1 + 1 + 1, 2, none⟩ (ji m.ep)).setCell ⟨w.heap.size + 1 + 1 + 1, 3, none⟩ (.slice a1 m.lg.length c1)).setCell ⟨w.heap.size + 1 + 1 + 1, 4, none⟩ (ji m.sd)).setCell ⟨w.heap.size + 1 + 1 + 1, 5, none⟩ (ji m.ac)).setCell ⟨w.heap.size + 1 + 1 + 1, 6, none⟩ (ji m.al));have Q3 : AV u3 (w.heap.size + 1 + 1 + 1) m (.slice a1 m.lg.length c1) := by rw [hu3]; exact Z3.put m _
  have kp : ∀ k, k ≠ w.heap.size + 1 + 1 + 1 → u3.heap[k]? = u2.heap[k]? := fun k hk => by rw [hu3]; exact Dd _ _ _ m _ hk
  have hs3 : An u3 w.heap.size r ∧ Ag u3 q m (.slice a1 m.lg.length c1) := ⟨hs2.1.keep (kp _ (by omega)), hs2.2.keep (kp _ (by omega))⟩;have Q2 := Q2.keep (kp _ (by omega));have O1 := O1.keep (fun g e => kp g (by have := lo g e; omega));have Bd : Bw w u3 := by rw [hu3]; exact EJ m _ Bd (by omega)
  rw [← hu3];clear hu3 kp;refine hKz _ _ ⟨hs3, ?_⟩;clear hKz Kz;refine tw 4 8 (.bool false) ?_;refine AM ?_;have OZ := O1.base (base' := w.heap.size) (by omega);obtain ⟨⟨q0, q1, q2⟩, qf⟩ := Q2;replace Q3 := Q3.all;clear qf hs3 O1;go_wp2
  refine bodyPost_ret (v := .tuple #[.agg #[ji r.ep, ji r.ow, ji r.pa], .agg (mc m a1 c1), .bool false]) (by simp [results, results201, go_sem, *]) rfl ⟨a1, c1, by rw [hTR.out, hTM.out, hT.out], OZ, Bd⟩
attribute [local go_sem] bc
theorem BE.lt {w : World} {q o : Nat} {x : AF} (h : BE w q o x) : q < w.heap.size := World.block_lt_of_cell? w _ h.c0
theorem AV.setSd' {w : World} {q : Nat} {m : Mi} {v : Value} (h : AV w q m v) (z : Int) : AV (w.setCell (ja q 4) (ji z)) q ⟨m.up, m.li, m.ep, m.lg, z, m.ac, m.al⟩ v := ⟨(AC (by decide)).trans h.c0, (AC (by decide)).trans h.c1, (AC (by decide)).trans h.c2, (AC (by decide)).trans h.c3, Aj h.c4, (AC (by decide)).trans h.c5, (AC (by decide)).trans h.c6, fun i => by rw [World.frozen?_setCell]; exact h.fr i⟩
theorem Lb (x : AG) (d : De) (w : World) (base : Nat) (hO : AO base w x) (hbw : base ≤ w.heap.size) (hb : AX x.p = true) (ha : 0 ≤ d.a ∧ d.a ≤ 1) :
  Calls prog 179 #[.agg (bc x), .agg #[ji d.k, ji d.a, ji d.x.k, ji d.x.q, ji d.x.r, ji d.x.c, ji d.x.b, ji d.x.p, ji d.x.h, .bool d.x.up]] w fun e w' => ∃ x2 : AG, ∃ c : Int, e = .returned (.tuple #[.agg (bc x2), ji c]) ∧ (x2.p, c) = EV x.p d ∧ AO base w' x2 ∧ Below base w w' ∧ PZ w w' := by
 obtain ⟨y, hy⟩ := AB (((w.alloc (Obj.cells (bc x) 34)).alloc (Obj.cells #[ji d.k, ji d.a, ji d.x.k, ji d.x.q, ji d.x.r, ji d.x.c, ji d.x.b, ji d.x.p, ji d.x.h, .bool d.x.up] 178)).alloc (Obj.cells #[ji 0, ji 0, ji 0, ji 0, ji 0, .slice none 0 0, .slice none 0 0, .slice none 0 0, .slice none 0 0, .slice none 0 0] 34));obtain ⟨S, D, B0, ND⟩ := GJ x d w y hO hbw hy;have PZ_ := PZ.of B0;obtain ⟨hl2, hmi, _, _, hli, _⟩ := EA hb;have V := S.O.okV hb;clear hb hO;obtain ⟨k, hk⟩ : ∃ k : Nat, d.a = (k : Int) := ⟨d.a.toNat, by omega⟩;have hk2 : k < 2 := by omega
 have hkl : k < x.two.length := by omega
 obtain ⟨g, hat, _, gl⟩ := S.O.t.blk (by omega);obtain ⟨m, hm⟩ : ∃ m, x.two.getD k AF.nil = m := ⟨_, rfl⟩;have M0 : BE y g (k * 7) m := by have h1 := S.O.t.view.2; rw [hat] at h1; have := CJ (h1.at_ Au AF.nil hkl); rw [hm] at this; simpa using this
 have hmo : AT x.p d.a = m.m := by rw [CC, hk]; simp only [Int.toNat_natCast]; rw [hm]
 have hok : Aq m.m = true := by have := hmi k hk2; rw [hm] at this; exact this
 have hlg := ER hok;have hct := V.ct;have hL := S.O.l k hkl;rw [hm] at hL;have hcn := hL.capn;obtain ⟨R, hR⟩ := AB (EV x.p d);rw [← hR];replace hR : Hid _ := hR;replace hk : Hid _ := hk;replace hat : Hid _ := hat;replace hm : Hid _ := hm;replace hmo : Hid _ := hmo;replace hok : Hid _ := hok;replace hl2 : Hid _ := hl2;clear ha hmi;go_enter func179, ntmps179
 go_upto_region 1 with fail
 rw [← hy];clear hy;obtain ⟨a0, a1, a2, a3, a4, a5, a6, a7, a8, a9⟩ := S.A.at_;rw [hat.out] at a5;have cD := D.c1;rw [hk.out] at cD;obtain ⟨v0, v1, v2, v3, v4, v5, v6⟩ := id M0;go_upto_region 2 with fail
 clear v0 v1 v2 v3 v4 v5 v6 a0 a1 a2 a3 a4 a5 a6 a7 a8 a9 cD;obtain ⟨u1, hu1, kq⟩ := AI y (Obj.cells (mc m.m m.ad m.cap) 52);rw [← hu1];have N : Ag u1 y.heap.size m.m (.slice m.ad m.m.lg.length m.cap) := by rw [hu1]; exact Ag.new y _ m.m _
 have NN : At y.heap.size x := S.O.ne (Nat.le_refl _);have nq := S.A.lt;have nd := D.lt;have nz := Bi S.Z;clear hu1;have S := S.later kq;have PZ_ := PZ_.later kq;have D := D.below kq D.lt;have V := V.later kq;have hL := hL.later kq;have M0 := M0.below kq gl;obtain ⟨qn, hqn⟩ := AB y.heap.size;rw [← hqn] at N NN nq nz nd gl ⊢;clear hqn kq;have e0 := D.c0;by_cases h9 : d.k = 9
 ·
  go_upto_region 3 with fail
  clear e0;have cD := D.c1;rw [hk.out] at cD;obtain ⟨a0, a1, a2, a3, a4, a5, a6, a7, a8, a9⟩ := S.A.at_;have n0 := N.all;go_wp2_with fail
  go_at_call 201
  clear n0 a0 a1 a2 a3 a4 a5 a6 a7 a8 a9 cD;refine (J4 x.rg (k : Int) m.m m.ad m.cap u1 hL.view.2 (by omega) hcn).mono ?_;rintro e u2 ⟨a7, c7, rfl, O7, kq⟩;have gu := M0.lt;have NEA : ∀ q, u1.heap.size ≤ q → At q x := fun q h => S.O.ne h
  have lo7 := O7.lt;have liu := S.O.i.lt;have nq1 := S.A.lt;have nz1 := Bi S.Z;have s1 := S.sz;have S := S.later kq;have PZ_ := PZ_.later kq;have D := D.below kq D.lt;have M0 := M0.below kq (by have := M0.lt; omega);have z12 := kq.size;clear kq V;obtain ⟨rr, hrr⟩ := AB (CS x.rg (k : Int) m.m);obtain ⟨mm, hmm⟩ := AB (CK x.rg (k : Int) m.m);obtain ⟨tb, htb⟩ := AB (CT x.rg (k : Int) m.m);rw [← hrr, ← hmm, ← htb];replace hrr : Hid _ := hrr;replace hmm : Hid _ := hmm;replace htb : Hid _ := htb;go_upto_region 4 with fail
  obtain ⟨v3, hv3, k1⟩ := AI u2 (Obj.cells #[ji rr.ep, ji rr.ow, ji rr.pa] 27);obtain ⟨u3, hu3, k2⟩ := AI v3 (Obj.cells #[.bool mm.up, ji mm.li, ji mm.ep, .slice a7 m.m.lg.length c7, ji mm.sd, ji mm.ac, ji mm.al] 52);rw [← hv3, ← hu3];have sv : v3.heap.size = u2.heap.size + 1 := by rw [hv3]; simp
  have RG : An v3 u2.heap.size rr := by rw [hv3]; exact An.new u2 _ rr
  have N7 : AV u3 v3.heap.size mm (.slice a7 m.m.lg.length c7) := by rw [hu3]; exact AV.new v3 _ mm _
  have RG := RG.below k2 RG.lt;have kk := k1.trans (k2.mono (by omega));clear hv3 hu3 k1 k2;have S := S.later kk;have PZ_ := PZ_.later kk;have D := D.below kk D.lt;have M0 := M0.below kk (by have := M0.lt; omega);have O7 := O7.later kk;rw [sv] at N7;obtain ⟨q7, hq7⟩ := AB u2.heap.size;rw [← hq7] at RG N7 ⊢;have z27 : u2.heap.size ≤ q7 := by omega
  have lt7 : ∀ g_, (Value.slice a7 m.m.lg.length c7).ownBlock = some g_ → u1.heap.size ≤ g_ ∧ g_ < q7 := fun g_ e => by have := lo7 g_ e; omega
  clear sv kk hq7 lo7;cases tb
  ·
   have hX : Hid ((x.p, (3 : Int)) = R) := by unfold Hid; rw [hR.out]; unfold EV; rw [if_pos h9, hmo.out, hk.out, show x.p.rg = x.rg from rfl]; rw [if_pos htb.out.symm]
   replace h9 : Hid _ := h9;obtain ⟨O9, B9⟩ := S.ret;have P9 := S.pz PZ_ (by omega);have ZB := S.Z.box;have a0 := S.A.at_.all;have r0 := As ZB;clear S;go_wp2
   refine bodyPost_ret (v := .tuple #[AN x, ji 3]) (by simp [AN, results, results179, go_sem, *]) rfl ⟨x, 3, rfl, by exact hX.out, O9, B9, P9⟩
  by_cases hl : (m.m.lg.length : Int) < (x.ln.length : Int)
  ·
   have d1 : decide (m.m.lg.length < x.ln.length) = true := decide_eq_true (by omega);have hX : Hid ((x.p, (4 : Int)) = R) := by unfold Hid; rw [hR.out]; unfold EV; rw [if_pos h9, hmo.out, hk.out, show x.p.rg = x.rg from rfl]; rw [if_neg (by rw [← htb.out]; decide), if_pos (by show m.m.lg.length < x.ln.length; omega)]
   replace h9 : Hid _ := h9;have n0 := N7.all;obtain ⟨O9, B9⟩ := S.ret;have P9 := S.pz PZ_ (by omega);have ZB := S.Z.box;obtain ⟨a0, a1, a2, a3, a4, a5, a6, a7, a8, a9⟩ := S.A.at_;have r0 := As ZB;clear S;go_wp2
   refine bodyPost_ret (v := .tuple #[AN x, ji 4]) (by simp [AN, results, results179, go_sem, *]) rfl ⟨x, 4, rfl, by exact hX.out, O9, B9, P9⟩
  have d1 : decide (m.m.lg.length < x.ln.length) = false := decide_eq_false (by omega);have hX : Hid ((EG (FZ x.p rr) (k : Int) (⟨⟨mm.up, mm.li, mm.ep, m.m.lg, (x.ln.length : Int), mm.ac, mm.al⟩, a7, c7⟩ : AF).m, (0 : Int)) = R) := by unfold Hid; rw [hR.out]; unfold EV; rw [if_pos h9, hmo.out, hk.out, show x.p.rg = x.rg from rfl]; rw [if_neg (by rw [← htb.out]; decide), if_neg (by show ¬ m.m.lg.length < x.ln.length; omega), hrr.out, hmm.out]; unfold CS CK IP; rw [← htb.out]; rfl
  replace h9 : Hid _ := h9;clear hl;obtain ⟨n0, n1, n2, n3, n4, n5, n6, nf⟩ := id N7;have f4 := nf 4;clear nf;obtain ⟨a0, a1, a2, a3, a4, a5, a6, a7, a8, a9⟩ := S.A.at_;go_upto_region 9 with fail
  clear n0 n1 n2 n3 n4 n5 n6 a0 a1 a2 a3 a4 a5 a6 a7 a8 a9 f4 d1;obtain ⟨u4, hu4⟩ := AB (u3.setCell ⟨q7 + 1, 4, none⟩ (ji (x.ln.length : Int)));rw [← hu4];have N7 : AV u4 (q7 + 1) ⟨mm.up, mm.li, mm.ep, mm.lg, (x.ln.length : Int), mm.ac, mm.al⟩ (.slice a7 m.m.lg.length c7) := by rw [hu4]; exact N7.setSd' _
  have kp : ∀ g, g ≠ q7 + 1 → u4.heap[g]? = u3.heap[g]? := fun g hg => by rw [hu4]; exact AE hg
  have hqn7 : At (q7 + 1) x := NEA _ (by omega);have PZ_ := PZ_.keep (n := q7 + 1) (by omega) kp (by simp [*]);have S := S.keepN hqn7 (by omega) (by omega) kp (by rw [hu4]; exact S.B.setCell (p := ⟨q7 + 1, 4, none⟩) (by show base ≤ q7 + 1; omega) _);have D := D.keep (kp _ (by omega));have M0 := M0.keep (kp _ (by omega));have RG := RG.keep (kp _ (by omega));have O7 := O7.keep (fun g_ e => kp g_ (by have := lt7 g_ e; omega));clear hu4 kp hqn7;obtain ⟨⟨a0, a1, a2, a3, a4, a5, a6, a7, a8, a9⟩, af⟩ := S.A;have f2 := af 2;have f3 := af 3;have f4 := af 4;clear af;replace RG := RG.all;go_upto_region 10 with fail
  clear RG a0 a1 a2 a3 a4 a5 a6 a7 a8 a9 f2 f3 f4;obtain ⟨u5, hu5⟩ := AB (((u4.setCell (ja w.heap.size 2) (ji rr.ep)).setCell (ja w.heap.size 3) (ji rr.ow)).setCell (ja w.heap.size 4) (ji rr.pa));rw [← hu5];have kp : ∀ g, g ≠ w.heap.size → u5.heap[g]? = u4.heap[g]? := fun g hg => by rw [hu5, AE hg, AE hg, AE hg]
  have PZ_ := PZ_.keep (n := w.heap.size) (W2 := u5) (Nat.le_refl _) (fun g hg => by rw [hu5, AE hg, AE hg, AE hg]) (by rw [hu5]; simp);have S := S.setR rr;rw [← hu5] at S;have D := D.keep (kp _ (by omega));have M0 := M0.keep (kp _ (fun e => S.NA.t g (Bg hat.out rfl) e));have N7 := N7.keep (kp _ (by omega));have O7 := O7.keep (fun g_ e => kp g_ (by have := lt7 g_ e; omega));clear hu5 kp;have cA := S.A.at_.c5;rw [show ({ x with rg := rr } : AG).aT = x.aT from rfl, hat.out] at cA;have cD := D.c1;rw [hk.out] at cD;have n0 := N7.all;have v0 := M0.all;have ot := S.O.t;rw [show ({ x with rg := rr } : AG).aT = x.aT from rfl, hat.out] at ot;have f0 := ot.frozen (k * 7);have f1 := ot.frozen (k * 7 + 1);have f2 := ot.frozen (k * 7 + 2);have f3 := ot.frozen (k * 7 + 3);have f4 := ot.frozen (k * 7 + 4);have f5 := ot.frozen (k * 7 + 5);have f6 := ot.frozen (k * 7 + 6);clear ot;go_upto_region 11 with fail
  clear v0 n0 cA cD f0 f1 f2 f3 f4 f5 f6;obtain ⟨u6, hu6⟩ := AB (((((((u5.setCell ⟨g, k * 7, none⟩ (.bool mm.up)).setCell ⟨g, k * 7 + 1, none⟩ (ji mm.li)).setCell ⟨g, k * 7 + 2, none⟩ (ji mm.ep)).setCell ⟨g, k * 7 + 3, none⟩ (.slice a7 m.m.lg.length c7)).setCell ⟨g, k * 7 + 4, none⟩ (ji (x.ln.length : Int))).setCell ⟨g, k * 7 + 5, none⟩ (ji mm.ac)).setCell ⟨g, k * 7 + 6, none⟩ (ji mm.al));rw [← hu6];have PZ_ := PZ_.row (W2 := u6) S.O.t (by decide) (Bg hat.out rfl) (fun k_ hk_ => by rw [hu6, AE hk_, AE hk_, AE hk_, AE hk_, AE hk_, AE hk_, AE hk_]) (by rw [hu6]; simp);have S : Ak base w.heap.size (w.heap.size + 1 + 1) w u6 (({ x with rg := rr } : AG).setT k (⟨⟨mm.up, mm.li, mm.ep, m.m.lg, (x.ln.length : Int), mm.ac, mm.al⟩, a7, c7⟩ : AF)) := by rw [hu6]; exact S.setT (x := { x with rg := rr }) hat.out hkl (⟨⟨mm.up, mm.li, mm.ep, m.m.lg, (x.ln.length : Int), mm.ac, mm.al⟩, a7, c7⟩ : AF) (O7.base (by omega)) (fun g_ e e2 => by have := (lt7 g_ e).1; have := (liu g_ e2).2; omega) (fun g_ e => by have := (lt7 g_ e).1; omega)
  clear hu6;obtain ⟨z, hz⟩ : ∃ z : AG, z = ({ x with rg := rr } : AG).setT k (⟨⟨mm.up, mm.li, mm.ep, m.m.lg, (x.ln.length : Int), mm.ac, mm.al⟩, a7, c7⟩ : AF) := ⟨_, rfl⟩;rw [← hz] at S;have hP : Hid ((z.p, (0 : Int)) = R) := by unfold Hid; rw [hz, AG.setT_p, ← hX.out]; rfl
  clear hz hX;obtain ⟨O9, B9⟩ := S.ret;have P9 := S.pz PZ_ (by omega);have ZB := S.Z.box;have a0 := S.A.at_.all;have r0 := As ZB;clear S;go_wp2
  refine bodyPost_ret (v := .tuple #[AN z, ji 0]) (by simp [AN, results, results179, go_sem, *]) rfl ⟨z, 0, rfl, by exact hP.out, O9, B9, P9⟩
 replace h9 : Hid (¬ d.k = 9) := h9;have d9 : (d.k == 9) = false := by simpa using h9.out
 by_cases h10 : d.k = 10
 focus
  have hf : Hid ((if d.k = 10 then (AT x.p d.a).al else 0) = m.m.al) := by unfold Hid; rw [if_pos h10, hmo.out]
  have d10 : (d.k == 10) = true := by simpa using h10
  replace h10 : Hid _ := h10;have n0 := N.all;go_upto_region 15 with fail
  clear n0 e0 d9 d10;have cD := D.c1;rw [hk.out] at cD;have a0 := S.A.at_.all;have n0 := N.all;go_wp2_with fail
  go_at_call 202
  clear n0 a0 cD;refine (IC x.rg (k : Int) m.m m.ad m.cap m.m.al u1 hL.view.2 (by omega)).mono ?_;rintro e u2 ⟨rfl, kq⟩;have nq1 := S.A.lt;have s1 := S.sz;have S := S.later kq;have PZ_ := PZ_.later kq;have D := D.below kq D.lt;have z12 := kq.size;clear kq V;obtain ⟨rr, hrr⟩ := AB (DW x.rg (k : Int) m.m m.m.al);obtain ⟨tb, htb⟩ := AB (DQ x.rg (k : Int) m.m m.m.al)
 rotate_left;focus
  have hf : Hid ((if d.k = 10 then (AT x.p d.a).al else 0) = 0) := by unfold Hid; rw [if_neg h10]
  have d10 : (d.k == 10) = false := by simpa using h10
  replace h10 : Hid (¬ d.k = 10) := h10;go_upto_region 15 with fail
  clear e0 d9 d10;have cD := D.c1;rw [hk.out] at cD;have a0 := S.A.at_.all;have n0 := N.all;go_wp2_with fail
  go_at_call 202
  clear n0 a0 cD;refine (IC x.rg (k : Int) m.m m.ad m.cap 0 u1 hL.view.2 (by omega)).mono ?_;rintro e u2 ⟨rfl, kq⟩;have nq1 := S.A.lt;have s1 := S.sz;have S := S.later kq;have PZ_ := PZ_.later kq;have D := D.below kq D.lt;have z12 := kq.size;clear kq V;obtain ⟨rr, hrr⟩ := AB (DW x.rg (k : Int) m.m 0);obtain ⟨tb, htb⟩ := AB (DQ x.rg (k : Int) m.m 0)
 rotate_left;all_goals
  rw [← hrr, ← htb];replace hrr : Hid _ := hrr;replace htb : Hid _ := htb;go_upto_region 16 with fail
  obtain ⟨u3, hu3, kk⟩ := AI u2 (Obj.cells #[ji rr.ep, ji rr.ow, ji rr.pa] 27);rw [← hu3];have RG : An u3 u2.heap.size rr := by rw [hu3]; exact An.new u2 _ rr
  clear hu3;have S := S.later kk;have PZ_ := PZ_.later kk;have D := D.below kk D.lt;obtain ⟨q7, hq7⟩ := AB u2.heap.size;rw [← hq7] at RG ⊢;have z27 : u2.heap.size ≤ q7 := by omega
  clear kk hq7;cases tb
  ·
   have hX : Hid ((x.p, (3 : Int)) = R) := by unfold Hid; rw [hR.out]; unfold EV; rw [if_neg h9.out, hf.out, hmo.out, hk.out, show x.p.rg = x.rg from rfl]; rw [if_neg (by rw [← htb.out]; decide)]
   obtain ⟨O9, B9⟩ := S.ret;have P9 := S.pz PZ_ (by omega);have ZB := S.Z.box;have a0 := S.A.at_.all;have r0 := As ZB;clear S;go_wp2
   refine bodyPost_ret (v := .tuple #[AN x, ji 3]) (by simp [AN, results, results179, go_sem, *]) rfl ⟨x, 3, rfl, by exact hX.out, O9, B9, P9⟩
  ·
   have hX : Hid ((FZ x.p rr, (0 : Int)) = R) := by unfold Hid; rw [hR.out]; unfold EV; rw [if_neg h9.out, hf.out, hmo.out, hk.out, show x.p.rg = x.rg from rfl]; rw [if_pos htb.out.symm, hrr.out]
   obtain ⟨⟨a0, a1, a2, a3, a4, a5, a6, a7, a8, a9⟩, af⟩ := S.A;have f2 := af 2;have f3 := af 3;have f4 := af 4;clear af;replace RG := RG.all;go_upto_region 19 with fail
   clear RG a0 a1 a2 a3 a4 a5 a6 a7 a8 a9 f2 f3 f4;obtain ⟨u5, hu5⟩ := AB (((u3.setCell (ja w.heap.size 2) (ji rr.ep)).setCell (ja w.heap.size 3) (ji rr.ow)).setCell (ja w.heap.size 4) (ji rr.pa));rw [← hu5];have PZ_ := PZ_.keep (n := w.heap.size) (W2 := u5) (Nat.le_refl _) (fun g hg => by rw [hu5, AE hg, AE hg, AE hg]) (by rw [hu5]; simp);have S := S.setR rr;rw [← hu5] at S;clear hu5;obtain ⟨z, hz⟩ : ∃ z : AG, z = { x with rg := rr } := ⟨_, rfl⟩;rw [← hz] at S;have hP : Hid ((z.p, (0 : Int)) = R) := by unfold Hid; rw [hz, ← hX.out]; rfl
   clear hz hX;obtain ⟨O9, B9⟩ := S.ret;have P9 := S.pz PZ_ (by omega);have ZB := S.Z.box;have a0 := S.A.at_.all;have r0 := As ZB;clear S;go_wp2
   refine bodyPost_ret (v := .tuple #[AN z, ji 0]) (by simp [AN, results, results179, go_sem, *]) rfl ⟨z, 0, rfl, by exact hP.out, O9, B9, P9⟩
end Go.Proofs.YthgcbihhdbpbdaaGreat
