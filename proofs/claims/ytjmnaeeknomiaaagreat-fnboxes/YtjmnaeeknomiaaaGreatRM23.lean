import Derived.Test.YtjmnaeeknomiaaaGreatRM11
namespace Go.Proofs.YtjmnaeeknomiaaaGreat
open Go.ChangeShapes Go.WideShapes Go.ChangeAt Go.RowKit
open Go.ChangeMaps (open_string shut_string)
set_option linter.unusedVariables false
set_option maxRecDepth 100000
set_option maxHeartbeats 32000000
set_option linter.unusedSimpArgs false
open Go.Proofs.Tryz
attribute [local go_sem] ji ja mc
theorem Bf.put2 {w : World} {q : Nat} {r : Rg} (h : Bf w q r) (p : Int) : Bf (w.setCell (ja q 2) (ji p)) q ⟨r.ep, r.ow, p⟩ :=
 ⟨⟨(AA (by decide)).trans h.at_.c0, (AA (by decide)).trans h.at_.c1, Aj h.at_.c2⟩, fun i => by rw [World.frozen?_setCell]; exact h.fr i⟩
theorem HU (r : Rg) (s : Int) (m : Mi) (ad : Option Addr) (cap : Nat) (p : Int) (w : World) (hv : AH AO w ad m.lg) (hl : m.lg.length ≤ 1048577) :
  Calls prog 202 #[.agg #[ji r.ep, ji r.ow, ji r.pa], ji s, .agg #[.bool m.up, ji m.li, ji m.ep, .slice ad m.lg.length cap, ji m.sd, ji m.ac, ji m.al], ji p] w fun e w' => e = .returned (.tuple #[.agg #[ji (DG r s m p).ep, ji (DG r s m p).ow, ji (DG r s m p).pa], .bool (DA r s m p)]) ∧ Bw w w' := by
 have hB := hv.lt AT (by omega);obtain ⟨y, hy⟩ := AC (((w.alloc (Obj.cells #[ji r.ep, ji r.ow, ji r.pa] 27)).alloc (Obj.cells (mc m ad cap) 52)).alloc (Obj.cells #[ji 0, ji 0, ji 0] 27));have B0 : Bw w y := by rw [hy]; exact (((Below.refl _ _).alloc (Nat.le_refl _) _).alloc (by simp) _).alloc (by simp; omega) _
 have A : Bf y w.heap.size r := by rw [hy]; refine ⟨?_, fun i => ?_⟩; constructor <;> simp [go_sem]; simp [go_sem]
 have M : Ac y (w.heap.size + 1) m (.slice ad m.lg.length cap) := by rw [hy]; constructor <;> simp [go_sem]
 have Z : Bf y (w.heap.size + 1 + 1) ⟨0, 0, 0⟩ := by rw [hy]; refine ⟨?_, fun i => ?_⟩; constructor <;> simp [go_sem]; simp [go_sem]
 have hv1 := hv.below B0 hB;clear hv hB;go_enter func202, ntmps202
 obtain ⟨⟨x0, x1, x2⟩, xf⟩ := id A;have n0 := M.all;go_wp2_with fail
 go_at_call 106
 rw [← hy];clear n0 hy x0 x1 x2 xf;refine (HW r s m ad cap y hv1 hl).mono ?_;rintro e v1 ⟨rfl, k1⟩;have A := A.below k1 A.lt;have M := M.below k1 M.lt;have Z := Z.below k1 Z.lt;have B1 := AE B0 k1;clear k1 B0 hv1;have Bn := E2 (q := w.heap.size + 1 + 1) r B1 (by omega);have hA2 := A.put2 p;have Bq : Bw w (v1.setCell (ja w.heap.size 2) (ji p)) := B1.setCell (p := (ja w.heap.size 2)) (Nat.le_refl _) _;have By := E2 (q := w.heap.size + 1 + 1) ⟨r.ep, r.ow, p⟩ Bq (by omega);obtain ⟨⟨x0, x1, x2⟩, xf⟩ := A;replace M := M.all;obtain ⟨⟨z0, z1, z2⟩, zf⟩ := Z;have g0 := zf 0;have g1 := zf 1;have g2 := zf 2;have f2 := xf 2;clear zf xf;obtain ⟨⟨q0, q1, q2⟩, qf⟩ := hA2;clear qf;dsimp only at q0 q1 q2 By;cases h1 : Cq r s m
 focus
  have hP : Hid (DA r s m p = false) := by unfold Hid DA; rw [h1]; rfl
  have hQ : Hid (DG r s m p = r) := Fy hP.out;clear h1;have L1 := 0
 rotate_left;focus
  replace h1 : Hid _ := h1;by_cases h2 : p = 0
  focus
   have dh2 : (p == 0) = true := by simpa using h2
   have eh2 : (p != 0) = false := by simpa using h2
   have hP : Hid (DA r s m p = true) := by unfold Hid DA; rw [h1.out, decide_eq_true h2]; rfl
   have hQ : Hid (DG r s m p = ⟨r.ep, r.ow, p⟩) := by unfold Hid DG; rw [if_pos hP.out]
   replace h2 : Hid _ := h2;have L2 := 0
  rotate_left;focus
   have dh2 : (p == 0) = false := by rw [beq_eq_false_iff_ne]; exact h2
   have eh2 : (p != 0) = true := by simpa using h2
   replace h2 : Hid (¬ p = 0) := h2;by_cases h3 : p = m.al
   focus
    have dh3 : (p == m.al) = true := by simpa using h3
    have eh3 : (p != m.al) = false := by simpa using h3
    replace h3 : Hid _ := h3;by_cases h4 : m.ac = (m.lg.length : Int)
    focus
     have dh4 : (m.ac == (m.lg.length : Int)) = true := by simpa using h4
     have eh4 : (m.ac != (m.lg.length : Int)) = false := by simpa using h4
     have hP : Hid (DA r s m p = true) := by unfold Hid DA; rw [h1.out, decide_eq_true h3.out, decide_eq_true h4, Bool.and_true, Bool.or_true]; rfl
     have hQ : Hid (DG r s m p = ⟨r.ep, r.ow, p⟩) := by unfold Hid DG; rw [if_pos hP.out]
     replace h4 : Hid _ := h4;have L2 := 0
    rotate_left;focus
     have dh4 : (m.ac == (m.lg.length : Int)) = false := by rw [beq_eq_false_iff_ne]; exact h4
     have eh4 : (m.ac != (m.lg.length : Int)) = true := by simpa using h4
     have hP : Hid (DA r s m p = false) := by unfold Hid DA; rw [h1.out, decide_eq_false h2.out, decide_eq_false h4, Bool.and_false]; rfl
     have hQ : Hid (DG r s m p = r) := Fy hP.out;clear h4;have L1 := 0
    rotate_left
   rotate_left 2;focus
    have dh3 : (p == m.al) = false := by rw [beq_eq_false_iff_ne]; exact h3
    have eh3 : (p != m.al) = true := by simpa using h3
    have hP : Hid (DA r s m p = false) := by unfold Hid DA; rw [h1.out, decide_eq_false h2.out, decide_eq_false h3]; rfl
    have hQ : Hid (DG r s m p = r) := Fy hP.out;clear h3;have L1 := 0
   rotate_left
  rotate_left 3
 rotate_left 4;all_goals first
  | clear L1
    go_wp2
    refine bodyPost_ret (v := .tuple #[.agg #[ji r.ep, ji r.ow, ji r.pa], .bool false]) (by simp [results, results202, go_sem, *]) rfl ⟨by rw [hP.out, hQ.out], Bn⟩
  | clear L2
    go_wp2
    refine bodyPost_ret (v := .tuple #[.agg #[ji r.ep, ji r.ow, ji p], .bool true]) (by simp [results, results202, go_sem, *]) rfl ⟨by rw [hP.out, hQ.out], By⟩
def CL (r : Rg) (s : Int) (m : Mi) : Rg := if CM r s m then CF r s else r
def CA (r : Rg) (s : Int) (m : Mi) : Mi := if CM r s m then BP r m else m
theorem AQ.take {w : World} {q : Nat} {m : Mi} {v : Value} (h : AQ w q m v) (r : Rg) : AQ (((w.setCell (ja q 2) (ji (r.ep + 1))).setCell (ja q 5) (ji 0)).setCell (ja q 6) (ji 0)) q (BP r m) v := by
 obtain ⟨h0, h1, h2, h3, h4, h5, h6, hf⟩ := h;have h0 : (w.setCell (ja q 2) (ji (r.ep + 1))).cell? (ja q 0) = _ := (AA (by decide)).trans h0;have h1 : (w.setCell (ja q 2) (ji (r.ep + 1))).cell? (ja q 1) = _ := (AA (by decide)).trans h1;have h2 : (w.setCell (ja q 2) (ji (r.ep + 1))).cell? (ja q 2) = some (ji (r.ep + 1)) := Aj h2;have h3 : (w.setCell (ja q 2) (ji (r.ep + 1))).cell? (ja q 3) = _ := (AA (by decide)).trans h3;have h4 : (w.setCell (ja q 2) (ji (r.ep + 1))).cell? (ja q 4) = _ := (AA (by decide)).trans h4;have h5 : (w.setCell (ja q 2) (ji (r.ep + 1))).cell? (ja q 5) = _ := (AA (by decide)).trans h5;have h6 : (w.setCell (ja q 2) (ji (r.ep + 1))).cell? (ja q 6) = _ := (AA (by decide)).trans h6;have h0 : ((w.setCell (ja q 2) (ji (r.ep + 1))).setCell (ja q 5) (ji 0)).cell? (ja q 0) = _ := (AA (by decide)).trans h0;have h1 : ((w.setCell (ja q 2) (ji (r.ep + 1))).setCell (ja q 5) (ji 0)).cell? (ja q 1) = _ := (AA (by decide)).trans h1;have h2 : ((w.setCell (ja q 2) (ji (r.ep + 1))).setCell (ja q 5) (ji 0)).cell? (ja q 2) = _ := (AA (by decide)).trans h2;have h3 : ((w.setCell (ja q 2) (ji (r.ep + 1))).setCell (ja q 5) (ji 0)).cell? (ja q 3) = _ := (AA (by decide)).trans h3;have h4 : ((w.setCell (ja q 2) (ji (r.ep + 1))).setCell (ja q 5) (ji 0)).cell? (ja q 4) = _ := (AA (by decide)).trans h4;have h5 : ((w.setCell (ja q 2) (ji (r.ep + 1))).setCell (ja q 5) (ji 0)).cell? (ja q 5) = some (ji 0) := Aj h5;have h6 : ((w.setCell (ja q 2) (ji (r.ep + 1))).setCell (ja q 5) (ji 0)).cell? (ja q 6) = _ := (AA (by decide)).trans h6;have h0 : (((w.setCell (ja q 2) (ji (r.ep + 1))).setCell (ja q 5) (ji 0)).setCell (ja q 6) (ji 0)).cell? (ja q 0) = _ := (AA (by decide)).trans h0;have h1 : (((w.setCell (ja q 2) (ji (r.ep + 1))).setCell (ja q 5) (ji 0)).setCell (ja q 6) (ji 0)).cell? (ja q 1) = _ := (AA (by decide)).trans h1;have h2 : (((w.setCell (ja q 2) (ji (r.ep + 1))).setCell (ja q 5) (ji 0)).setCell (ja q 6) (ji 0)).cell? (ja q 2) = _ := (AA (by decide)).trans h2;have h3 : (((w.setCell (ja q 2) (ji (r.ep + 1))).setCell (ja q 5) (ji 0)).setCell (ja q 6) (ji 0)).cell? (ja q 3) = _ := (AA (by decide)).trans h3;have h4 : (((w.setCell (ja q 2) (ji (r.ep + 1))).setCell (ja q 5) (ji 0)).setCell (ja q 6) (ji 0)).cell? (ja q 4) = _ := (AA (by decide)).trans h4;have h5 : (((w.setCell (ja q 2) (ji (r.ep + 1))).setCell (ja q 5) (ji 0)).setCell (ja q 6) (ji 0)).cell? (ja q 5) = _ := (AA (by decide)).trans h5;have h6 : (((w.setCell (ja q 2) (ji (r.ep + 1))).setCell (ja q 5) (ji 0)).setCell (ja q 6) (ji 0)).cell? (ja q 6) = some (ji 0) := Aj h6;refine ⟨h0, h1, h2, h3, h4, h5, h6, fun i => ?_⟩;rw [World.frozen?_setCell, World.frozen?_setCell, World.frozen?_setCell];exact hf i
theorem JP (r : Rg) (s : Int) (m : Mi) (ad : Option Addr) (cap : Nat) (w : World) (hv : AH AO w ad m.lg) (hl : m.lg.length ≤ 1048577) (hn : ad = none → cap = 0) :
  Calls prog 201 #[.agg #[ji r.ep, ji r.ow, ji r.pa], ji s, .agg #[.bool m.up, ji m.li, ji m.ep, .slice ad m.lg.length cap, ji m.sd, ji m.ac, ji m.al]] w fun e w' => ∃ a c, e = .returned (.tuple #[.agg #[ji (CL r s m).ep, ji (CL r s m).ow, ji (CL r s m).pa], .agg #[.bool (CA r s m).up, ji (CA r s m).li, ji (CA r s m).ep, .slice a m.lg.length c, ji (CA r s m).sd, ji (CA r s m).ac, ji (CA r s m).al], .bool (CM r s m)]) ∧ AB AO 8 64 w.heap.size w' (.slice a m.lg.length c) m.lg ∧ Bw w w' := by
 have hB := hv.lt AT (by omega);obtain ⟨y, hy⟩ := AC ((((w.alloc (Obj.cells #[ji r.ep, ji r.ow, ji r.pa] 27)).alloc (Obj.cells (mc m ad cap) 52)).alloc (Obj.cells #[ji 0, ji 0, ji 0] 27)).alloc (Obj.cells #[.bool false, ji 0, ji 0, .slice none 0 0, ji 0, ji 0, ji 0] 52));have B0 : Bw w y := by rw [hy]; exact ((((Below.refl _ _).alloc (Nat.le_refl _) _).alloc (by simp) _).alloc (by simp; omega) _).alloc (by simp; omega) _
 have A : Bf y w.heap.size r := by rw [hy]; refine ⟨?_, fun i => ?_⟩; constructor <;> simp [go_sem]; simp [go_sem]
 have M : Ac y (w.heap.size + 1) m (.slice ad m.lg.length cap) := by rw [hy]; constructor <;> simp [go_sem]
 have Z2 : Bf y (w.heap.size + 1 + 1) ⟨0, 0, 0⟩ := by rw [hy]; refine ⟨?_, fun i => ?_⟩; constructor <;> simp [go_sem]; simp [go_sem]
 have Z3 : AQ y (w.heap.size + 1 + 1 + 1) ⟨false, 0, 0, [], 0, 0, 0⟩ (.slice none 0 0) := by rw [hy]; constructor <;> simp [go_sem]
 have S0 := Z3.lt;have hv1 := hv.below B0 hB;have HV : ∀ a, ad = some a → 0 < m.lg.length → a.block < y.heap.size := hv1.lt AT (by omega);clear hv hB;go_enter func201, ntmps201
 have x0 := M.all;go_wp2_with fail
 go_at_call 105
 rw [← hy];clear x0 hy;refine (EX m ad cap y hv1 hl hn).mono ?_;rintro e u1 ⟨a1, c1, rfl, O1, k1⟩;have B1 := AE B0 k1;have A := A.below k1 A.lt;have M := M.below k1 M.lt;have Z2 := Z2.below k1 Z2.lt;have Z3 := Z3.below k1 Z3.lt;have hv1 := hv1.below k1 (hv1.lt AT (by omega));have s1 := k1.size;have lo1 := O1.lt;clear k1 B0;obtain ⟨u2, hu2, k2⟩ := AI u1 (Obj.cells (mc m a1 c1) 52);have N : AQ u2 u1.heap.size m (.slice a1 m.lg.length c1) := by rw [hu2]; exact AQ.new u1 _ _ _
 have B2 := AE B1 k2;have A := A.below k2 A.lt;have M := M.below k2 M.lt;have Z2 := Z2.below k2 Z2.lt;have Z3 := Z3.below k2 Z3.lt;have O1 := O1.later k2;have hv1 := hv1.below k2 (hv1.lt AT (by omega));have s2 := N.lt;go_upto_region 2 with fail
 rw [← hu2];clear hu2 k2 B1;obtain ⟨q, hq⟩ := AC u1.heap.size;rw [← hq] at N s1 s2 lo1 ⊢;clear hq;obtain ⟨⟨x0, x1, x2⟩, xf⟩ := id A;go_wp2_with fail
 go_at_call 55
 clear x0 x1 x2 xf;refine (Fe r u2).mono ?_;rintro e u3 ⟨rfl, k3⟩;have A := A.below k3 A.lt;have M := M.below k3 M.lt;have Z2 := Z2.below k3 Z2.lt;have Z3 := Z3.below k3 Z3.lt;have N := N.below k3 N.lt;have O1 := O1.later k3;have hv1 := hv1.below k3 (hv1.lt AT (by omega));have B3 := AE B2 k3;have s3 := k3.size;clear k3 B2;cases h1 : BV r
 focus
  have hT : Hid (CM r s m = false) := by unfold Hid CM; rw [show C7 r s m = false by unfold C7; rw [h1]; rfl]; rfl
  have hTR : Hid (CL r s m = r) := by unfold Hid CL; rw [hT.out]; rfl
  have hTM : Hid (CA r s m = m) := by unfold Hid CA; rw [hT.out]; rfl
  have FR := A.at_;have FM := N.at_;go_upto_region 3 with fail
  refine AV (fun Y => Al Y w.heap.size r ∧ Ac Y q m (.slice a1 m.lg.length c1)) fun u0 kd => ?_
  have hs0 : Al u0 w.heap.size r ∧ Ac u0 q m (.slice a1 m.lg.length c1) := ⟨FR.below kd FR.lt, FM.below kd FM.lt⟩;have Z2 := Z2.below kd Z2.lt;have Z3 := Z3.below kd Z3.lt;have O1 := O1.later kd;have Bd := AE B3 kd
 rotate_left;focus
  replace h1 : Hid _ := h1;have n0 := M.all;go_wp2_with fail
  go_at_call 56
  clear n0;refine (Eu m ad cap u3 hv1 hl).mono ?_;rintro e u4 ⟨rfl, k4⟩;have A := A.below k4 A.lt;have M := M.below k4 M.lt;have Z2 := Z2.below k4 Z2.lt;have Z3 := Z3.below k4 Z3.lt;have N := N.below k4 N.lt;have O1 := O1.later k4;have hv1 := hv1.below k4 (hv1.lt AT (by omega));have B4 := AE B3 k4;have s4 := k4.size;clear k4 B3;cases h2 : Au m
  focus
   have hT : Hid (CM r s m = false) := by unfold Hid CM; rw [show C7 r s m = false by unfold C7; rw [h1.out, h2]; rfl]; rfl
   have hTR : Hid (CL r s m = r) := by unfold Hid CL; rw [hT.out]; rfl
   have hTM : Hid (CA r s m = m) := by unfold Hid CA; rw [hT.out]; rfl
   have FR := A.at_;have FM := N.at_;go_upto_region 3 with fail
   refine AV (fun Y => Al Y w.heap.size r ∧ Ac Y q m (.slice a1 m.lg.length c1)) fun u0 kd => ?_
   have hs0 : Al u0 w.heap.size r ∧ Ac u0 q m (.slice a1 m.lg.length c1) := ⟨FR.below kd FR.lt, FM.below kd FM.lt⟩;have Z2 := Z2.below kd Z2.lt;have Z3 := Z3.below kd Z3.lt;have O1 := O1.later kd;have Bd := AE B4 kd
  rotate_left;focus
   replace h2 : Hid _ := h2;cases h3 : m.up
   focus
    have hT : Hid (CM r s m = false) := by unfold Hid CM; rw [show C7 r s m = false by unfold C7; rw [h1.out, h2.out, h3]; rfl]; rfl
    have hTR : Hid (CL r s m = r) := by unfold Hid CL; rw [hT.out]; rfl
    have hTM : Hid (CA r s m = m) := by unfold Hid CA; rw [hT.out]; rfl
    obtain ⟨n0, n1, n2, n3, n4, n5, n6⟩ := id M;rw [h3] at n0;replace h3 : Hid _ := h3;have FR := A.at_;have FM := N.at_;go_upto_region 3 with fail
    refine AV (fun Y => Al Y w.heap.size r ∧ Ac Y q m (.slice a1 m.lg.length c1)) fun u0 kd => ?_
    have hs0 : Al u0 w.heap.size r ∧ Ac u0 q m (.slice a1 m.lg.length c1) := ⟨FR.below kd FR.lt, FM.below kd FM.lt⟩;have Z2 := Z2.below kd Z2.lt;have Z3 := Z3.below kd Z3.lt;have O1 := O1.later kd;have Bd := AE B4 kd
   rotate_left;focus
    obtain ⟨n0, n1, n2, n3, n4, n5, n6⟩ := id M;rw [h3] at n0;go_wp2_with fail
    go_at_call 65
    clear n0 n1 n2 n3 n4 n5 n6;refine (BK s 0 1 u4).mono ?_;rintro e u5 ⟨rfl, hw_⟩;rw [hw_];clear hw_;replace h3 : Hid _ := h3;cases h4 : decide (0 ≤ s ∧ s ≤ 1)
    focus
     have hT : Hid (CM r s m = false) := by unfold Hid CM; rw [show C7 r s m = false by unfold C7; rw [h1.out, h2.out, h3.out, h4]; rfl]; rfl
     have hTR : Hid (CL r s m = r) := by unfold Hid CL; rw [hT.out]; rfl
     have hTM : Hid (CA r s m = m) := by unfold Hid CA; rw [hT.out]; rfl
     clear h4;have n0 := M.all;obtain ⟨⟨x0, x1, x2⟩, xf⟩ := id A;clear xf;have FR := A.at_;have FM := N.at_;go_upto_region 3 with fail
     refine AV (fun Y => Al Y w.heap.size r ∧ Ac Y q m (.slice a1 m.lg.length c1)) fun u0 kd => ?_
     have hs0 : Al u0 w.heap.size r ∧ Ac u0 q m (.slice a1 m.lg.length c1) := ⟨FR.below kd FR.lt, FM.below kd FM.lt⟩;have Z2 := Z2.below kd Z2.lt;have Z3 := Z3.below kd Z3.lt;have O1 := O1.later kd;have Bd := AE B4 kd
    rotate_left;focus
     replace h4 : Hid _ := h4;by_cases h5 : s = r.ow
     focus
      have d5 : (s == r.ow) = true := by simpa using h5
      have hT : Hid (CM r s m = false) := by unfold Hid CM; rw [show C7 r s m = false by unfold C7; rw [h1.out, h2.out, h3.out, h4.out, decide_eq_false (show ¬ (s ≠ r.ow) from fun e => e h5)]; rfl]; rfl
      have hTR : Hid (CL r s m = r) := by unfold Hid CL; rw [hT.out]; rfl
      have hTM : Hid (CA r s m = m) := by unfold Hid CA; rw [hT.out]; rfl
      replace h5 : Hid _ := h5;have n0 := M.all;obtain ⟨⟨x0, x1, x2⟩, xf⟩ := id A;clear xf;have FR := A.at_;have FM := N.at_;go_upto_region 3 with fail
      refine AV (fun Y => Al Y w.heap.size r ∧ Ac Y q m (.slice a1 m.lg.length c1)) fun u0 kd => ?_
      have hs0 : Al u0 w.heap.size r ∧ Ac u0 q m (.slice a1 m.lg.length c1) := ⟨FR.below kd FR.lt, FM.below kd FM.lt⟩;have Z2 := Z2.below kd Z2.lt;have Z3 := Z3.below kd Z3.lt;have O1 := O1.later kd;have Bd := AE B4 kd
     rotate_left;focus
      have d5 : (s == r.ow) = false := by rw [beq_eq_false_iff_ne]; exact h5
      replace h5 : Hid (¬ s = r.ow) := h5;by_cases h6 : 0 < m.li
      focus
       have d6 : decide (m.li ≤ 0) = false := decide_eq_false (by omega);replace h6 : Hid _ := h6;by_cases h7 : m.li = r.pa
       ·
        have d7 : (m.li != r.pa) = false := by simpa using h7
        replace h7 : Hid _ := h7;have n0 := M.all;obtain ⟨⟨x0, x1, x2⟩, xf⟩ := id A;clear xf;go_upto_region 4 with fail
        clear n0 x0 x1 x2;have hG : C7 r s m = true := by unfold C7; rw [h1.out, h2.out, h3.out, h4.out, decide_eq_true (show s ≠ r.ow from h5.out), decide_eq_true h6.out, decide_eq_true h7.out]; rfl
        replace hG : Hid _ := hG;have hre := (I1.1 h1.out).1;obtain ⟨hre0, hre1⟩ := hre;obtain ⟨⟨x0, x1, x2⟩, xf⟩ := id A;clear xf;obtain ⟨u5, hu5, k5⟩ := AI u4 (Obj.cells #[ji (r.ep + 1), ji s, ji 0] 27);have X : Al u5 u4.heap.size (CF r s) := by rw [hu5]; exact Al.new u4 _ (CF r s)
        have B5 := AE B4 k5;have A := A.below k5 A.lt;have M := M.below k5 M.lt;have Z2 := Z2.below k5 Z2.lt;have Z3 := Z3.below k5 Z3.lt;have N := N.below k5 N.lt;have O1 := O1.later k5;have hv1 := hv1.below k5 (hv1.lt AT (by omega));have s5 := X.lt;go_upto_region 5 with fail
        rw [← hu5];clear hu5 k5 B4 x0 x1 x2;obtain ⟨qx, hqx⟩ := AC u4.heap.size;rw [← hqx] at X s5 ⊢;have hqq : q < qx := by omega
        clear hqx;obtain ⟨u6, hu6⟩ := AC (((u5.setCell (ja q 2) (ji (r.ep + 1))).setCell (ja q 5) (ji 0)).setCell (ja q 6) (ji 0));have N6 : AQ u6 q (BP r m) (.slice a1 m.lg.length c1) := by rw [hu6]; exact N.take r
        have kp : ∀ k, k ≠ q → u6.heap[k]? = u5.heap[k]? := fun k hk => by rw [hu6, AF hk, AF hk, AF hk]
        have A := A.keep (kp _ (by omega));have M := M.keep (kp _ (by omega));have Z2 := Z2.keep (kp _ (by omega));have Z3 := Z3.keep (kp _ (by omega));have X6 := X.keep (kp _ (by omega));have O1 := O1.keep (fun g e => kp g (by have := lo1 g e; omega));have hv1 := hv1.carry (fun a e p => kp _ (by have := HV a e p; omega));have B6 : Bw w u6 := by rw [hu6]; exact ((B5.setCell (p := (ja q 2)) (by show _ ≤ q; omega) _).setCell (p := (ja q 5)) (by show _ ≤ q; omega) _).setCell (p := (ja q 6)) (by show _ ≤ q; omega) _
        have s6 : u5.heap.size ≤ u6.heap.size := by rw [hu6]; simp
        obtain ⟨x0, x1, x2⟩ := X;obtain ⟨n0, n1, n2, n3, n4, n5, n6, nf⟩ := N;have f2 := nf 2;have f5 := nf 5;have f6 := nf 6;clear nf kp;dsimp only [CF] at x0 x1 x2;go_upto_region 8 with fail
        rw [← hu6];clear hu6 x0 x1 x2 n0 n1 n2 n3 n4 n5 n6 f2 f5 f6 B5;have N := N6;have X := X6;clear N6 X6;have x0 := X.all;go_wp2_with fail
        go_at_call 55
        clear x0;refine (Fe (CF r s) u6).mono ?_;rintro e u7 ⟨rfl, k7⟩;have A := A.below k7 A.lt;have M := M.below k7 M.lt;have Z2 := Z2.below k7 Z2.lt;have Z3 := Z3.below k7 Z3.lt;have N := N.below k7 N.lt;have O1 := O1.later k7;have hv1 := hv1.below k7 (hv1.lt AT (by omega));have X := X.below k7 X.lt;have B7 := AE B6 k7;have s7 := k7.size;clear k7 B6;cases h8 : BV (CF r s)
        focus
         have hT : Hid (CM r s m = false) := by unfold Hid CM; rw [hG.out, h8]; rfl
         have hTR : Hid (CL r s m = r) := by unfold Hid CL; rw [hT.out]; rfl
         have hTM : Hid (CA r s m = m) := by unfold Hid CA; rw [hT.out]; rfl
         have FR := A.at_;have FM := M;go_upto_region 9 with fail
         refine AV (fun Y => Al Y w.heap.size r ∧ Ac Y (w.heap.size + 1) m (.slice ad m.lg.length cap)) fun u0 kd => ?_
         have hs0 : Al u0 w.heap.size r ∧ Ac u0 (w.heap.size + 1) m (.slice ad m.lg.length cap) := ⟨FR.below kd FR.lt, FM.below kd FM.lt⟩;have Z2 := Z2.below kd Z2.lt;have Z3 := Z3.below kd Z3.lt;have O1 := O1.later kd;have Bd := AE B7 kd
        rotate_left;focus
         replace h8 : Hid _ := h8;have n0 := N.all;go_wp2_with fail
         go_at_call 56
         clear n0;refine (Eu (BP r m) a1 c1 u7 O1.view.2 (by show m.lg.length ≤ _; exact hl)).mono ?_;rintro e u8 ⟨rfl, k8⟩;have A := A.below k8 A.lt;have M := M.below k8 M.lt;have Z2 := Z2.below k8 Z2.lt;have Z3 := Z3.below k8 Z3.lt;have N := N.below k8 N.lt;have O1 := O1.later k8;have hv1 := hv1.below k8 (hv1.lt AT (by omega));have X := X.below k8 X.lt;have B8 := AE B7 k8;have s8 := k8.size;clear k8 B7;cases h9 : Au (BP r m)
         focus
          have hT : Hid (CM r s m = false) := by unfold Hid CM; rw [hG.out, h8.out, h9]; rfl
          have hTR : Hid (CL r s m = r) := by unfold Hid CL; rw [hT.out]; rfl
          have hTM : Hid (CA r s m = m) := by unfold Hid CA; rw [hT.out]; rfl
          have FR := A.at_;have FM := M;go_upto_region 9 with fail
          refine AV (fun Y => Al Y w.heap.size r ∧ Ac Y (w.heap.size + 1) m (.slice ad m.lg.length cap)) fun u0 kd => ?_
          have hs0 : Al u0 w.heap.size r ∧ Ac u0 (w.heap.size + 1) m (.slice ad m.lg.length cap) := ⟨FR.below kd FR.lt, FM.below kd FM.lt⟩;have Z2 := Z2.below kd Z2.lt;have Z3 := Z3.below kd Z3.lt;have O1 := O1.later kd;have Bd := AE B8 kd
         rotate_left
         ·
          have hT : Hid (CM r s m = true) := by unfold Hid CM; rw [hG.out, h8.out, h9]; rfl
          have hTR : Hid (CL r s m = CF r s) := by unfold Hid CL; rw [hT.out]; rfl
          have hTM : Hid (CA r s m = BP r m) := by unfold Hid CA; rw [hT.out]; rfl
          have FR := X;have FM := N.at_;go_upto_region 10 with fail
          refine AV (fun Y => Al Y qx (CF r s) ∧ Ac Y q (BP r m) (.slice a1 m.lg.length c1)) fun u0 kd => ?_
          have hs0 : Al u0 qx (CF r s) ∧ Ac u0 q (BP r m) (.slice a1 m.lg.length c1) := ⟨FR.below kd FR.lt, FM.below kd FM.lt⟩;have Z2 := Z2.below kd Z2.lt;have Z3 := Z3.below kd Z3.lt;have O1 := O1.later kd;have Bd := AE B8 kd;have lo := O1.lt;refine tw 0 72 (.agg #[ji (CF r s).ep, ji (CF r s).ow, ji (CF r s).pa]) ?_ (hy := by intro Y hSw; obtain ⟨⟨X0, X1, X2⟩, _⟩ := hSw; go_simp);refine tw 1 73 (.agg #[.bool (BP r m).up, ji (BP r m).li, ji (BP r m).ep, .slice a1 m.lg.length c1, ji (BP r m).sd, ji (BP r m).ac, ji (BP r m).al]) ?_ (hy := by intro Y hSw; obtain ⟨_, X0, X1, X2, X3, X4, X5, X6⟩ := hSw; go_simp);refine w1 2 fun Kz hKz => ?_
          obtain ⟨⟨z0, z1, z2⟩, zf⟩ := id Z2;have g0 := zf 0;have g1 := zf 1;have g2 := zf 2;go_simp
          clear z0 z1 z2 zf g0 g1 g2;obtain ⟨u2, hu2⟩ := AC (((u0.setCell ⟨w.heap.size + 1 + 1, 0, none⟩ (ji (CF r s).ep)).setCell ⟨w.heap.size + 1 + 1, 1, none⟩ (ji (CF r s).ow)).setCell ⟨w.heap.size + 1 + 1, 2, none⟩ (ji (CF r s).pa));have Q2 : Bf u2 (w.heap.size + 1 + 1) (CF r s) := by rw [hu2]; exact Z2.put (CF r s)
          have kp : ∀ k, k ≠ w.heap.size + 1 + 1 → u2.heap[k]? = u0.heap[k]? := fun k hk => by rw [hu2]; exact Fz _ _ _ (CF r s) hk
          have hs2 : Al u2 qx (CF r s) ∧ Ac u2 q (BP r m) (.slice a1 m.lg.length c1) := ⟨hs0.1.keep (kp _ (by omega)), hs0.2.keep (kp _ (by omega))⟩;have Z3 := Z3.keep (kp _ (by omega));have O1 := O1.keep (fun g e => kp g (by have := lo g e; omega));have Bd : Bw w u2 := by rw [hu2]; exact E2 (CF r s) Bd (by omega)
          rw [← hu2];clear hu2 kp;refine hKz _ _ ⟨hs2, ?_⟩;clear hKz Kz;refine w1 3 fun Kz hKz => ?_
          obtain ⟨z0, z1, z2, z3, z4, z5, z6, zf⟩ := id Z3;have g0 := zf 0;have g1 := zf 1;have g2 := zf 2;have g3 := zf 3;have g4 := zf 4;have g5 := zf 5;have g6 := zf 6;go_simp
          clear z0 z1 z2 z3 z4 z5 z6 zf g0 g1 g2 g3 g4 g5 g6;obtain ⟨u3, hu3⟩ := AC (((((((u2.setCell ⟨w.heap.size + 1 + 1 + 1, 0, none⟩ (.bool (BP r m).up)).setCell ⟨w.heap.size + 1 + 1 + 1, 1, none⟩ (ji (BP r m).li)).setCell ⟨w.heap.size + 1 + 1 + 1, 2, none⟩ (ji (BP r m).ep)).setCell ⟨w.heap.size + 1 + 1 + 1, 3, none⟩ (.slice a1 m.lg.length c1)).setCell ⟨w.heap.size + 1 + 1 + 1, 4, none⟩ (ji (BP r m).sd)).setCell ⟨w.heap.size + 1 + 1 + 1, 5, none⟩ (ji (BP r m).ac)).setCell ⟨w.heap.size + 1 + 1 + 1, 6, none⟩ (ji (BP r m).al));have Q3 : AQ u3 (w.heap.size + 1 + 1 + 1) (BP r m) (.slice a1 m.lg.length c1) := by rw [hu3]; exact Z3.put (BP r m) _
          have kp : ∀ k, k ≠ w.heap.size + 1 + 1 + 1 → u3.heap[k]? = u2.heap[k]? := fun k hk => by rw [hu3]; exact DO _ _ _ (BP r m) _ hk
          have hs3 : Al u3 qx (CF r s) ∧ Ac u3 q (BP r m) (.slice a1 m.lg.length c1) := ⟨hs2.1.keep (kp _ (by omega)), hs2.2.keep (kp _ (by omega))⟩;have Q2 := Q2.keep (kp _ (by omega));have O1 := O1.keep (fun g e => kp g (by have := lo g e; omega));have Bd : Bw w u3 := by rw [hu3]; exact Dq (BP r m) _ Bd (by omega)
          rw [← hu3];clear hu3 kp;refine hKz _ _ ⟨hs3, ?_⟩;clear hKz Kz;refine tw 4 8 (.bool true) ?_;refine AR ?_;have OZ := O1.base (base' := w.heap.size) (by omega);obtain ⟨⟨q0, q1, q2⟩, qf⟩ := Q2;replace Q3 := Q3.all;clear qf hs3 O1;go_wp2
          refine bodyPost_ret (v := .tuple #[.agg #[ji (CF r s).ep, ji (CF r s).ow, ji (CF r s).pa], .agg #[.bool (BP r m).up, ji (BP r m).li, ji (BP r m).ep, .slice a1 m.lg.length c1, ji (BP r m).sd, ji (BP r m).ac, ji (BP r m).al], .bool true]) (by simp [results, results201, go_sem, *]) rfl ⟨a1, c1, by rw [hTR.out, hTM.out, hT.out], OZ, Bd⟩
        rotate_left;all_goals
         have lo := O1.lt;refine tw 0 69 (.agg #[ji r.ep, ji r.ow, ji r.pa]) ?_ (hy := by intro Y hSw; obtain ⟨⟨X0, X1, X2⟩, _⟩ := hSw; go_simp);refine tw 1 70 (.agg (mc m ad cap)) ?_ (hy := by intro Y hSw; obtain ⟨_, X0, X1, X2, X3, X4, X5, X6⟩ := hSw; go_simp);refine w1 2 fun Kz hKz => ?_
         go_simp
         go_at_call 105
         refine (EX m ad cap u0 (hv1.below kd (hv1.lt AT (by omega))) hl hn).mono ?_;rintro e u1 ⟨a7, c7, rfl, O7, k7⟩;have hs1 : Al u1 w.heap.size r ∧ Ac u1 (w.heap.size + 1) m (.slice ad m.lg.length cap) := ⟨hs0.1.below k7 hs0.1.lt, hs0.2.below k7 hs0.2.lt⟩;have Z2 := Z2.below k7 Z2.lt;have Z3 := Z3.below k7 Z3.lt;have Bd := AE Bd k7;have lo := O7.lt;have kds := kd.size;clear k7;refine hKz _ _ ⟨hs1, ?_⟩;clear hKz Kz;refine w1 3 fun Kz hKz => ?_
         obtain ⟨⟨z0, z1, z2⟩, zf⟩ := id Z2;have g0 := zf 0;have g1 := zf 1;have g2 := zf 2;go_simp
         clear z0 z1 z2 zf g0 g1 g2;obtain ⟨u2, hu2⟩ := AC (((u1.setCell ⟨w.heap.size + 1 + 1, 0, none⟩ (ji r.ep)).setCell ⟨w.heap.size + 1 + 1, 1, none⟩ (ji r.ow)).setCell ⟨w.heap.size + 1 + 1, 2, none⟩ (ji r.pa));have Q2 : Bf u2 (w.heap.size + 1 + 1) r := by rw [hu2]; exact Z2.put r
         have kp : ∀ k, k ≠ w.heap.size + 1 + 1 → u2.heap[k]? = u1.heap[k]? := fun k hk => by rw [hu2]; exact Fz _ _ _ r hk
         have hs2 : Al u2 w.heap.size r ∧ Ac u2 (w.heap.size + 1) m (.slice ad m.lg.length cap) := ⟨hs1.1.keep (kp _ (by omega)), hs1.2.keep (kp _ (by omega))⟩;have Z3 := Z3.keep (kp _ (by omega));have O7 := O7.keep (fun g e => kp g (by have := lo g e; omega));have Bd : Bw w u2 := by rw [hu2]; exact E2 r Bd (by omega)
         rw [← hu2];clear hu2 kp;refine hKz _ _ ⟨hs2, ?_⟩;clear hKz Kz;refine w1 4 fun Kz hKz => ?_
         obtain ⟨z0, z1, z2, z3, z4, z5, z6, zf⟩ := id Z3;have g0 := zf 0;have g1 := zf 1;have g2 := zf 2;have g3 := zf 3;have g4 := zf 4;have g5 := zf 5;have g6 := zf 6;go_simp
         clear z0 z1 z2 z3 z4 z5 z6 zf g0 g1 g2 g3 g4 g5 g6;obtain ⟨u3, hu3⟩ := AC (((((((u2.setCell ⟨w.heap.size + 1 + 1 + 1, 0, none⟩ (.bool m.up)).setCell ⟨w.heap.size + 1 + 1 + 1, 1, none⟩ (ji m.li)).setCell ⟨w.heap.size + 1 + 1 + 1, 2, none⟩ (ji m.ep)).setCell ⟨w.heap.size + 1 + 1 + 1, 3, none⟩ (.slice a7 m.lg.length c7)).setCell ⟨w.heap.size + 1 + 1 + 1, 4, none⟩ (ji m.sd)).setCell ⟨w.heap.size + 1 + 1 + 1, 5, none⟩ (ji m.ac)).setCell ⟨w.heap.size + 1 + 1 + 1, 6, none⟩ (ji m.al));have Q3 : AQ u3 (w.heap.size + 1 + 1 + 1) m (.slice a7 m.lg.length c7) := by rw [hu3]; exact Z3.put m _
         have kp : ∀ k, k ≠ w.heap.size + 1 + 1 + 1 → u3.heap[k]? = u2.heap[k]? := fun k hk => by rw [hu3]; exact DO _ _ _ m _ hk
         have hs3 : Al u3 w.heap.size r ∧ Ac u3 (w.heap.size + 1) m (.slice ad m.lg.length cap) := ⟨hs2.1.keep (kp _ (by omega)), hs2.2.keep (kp _ (by omega))⟩;have Q2 := Q2.keep (kp _ (by omega));have O7 := O7.keep (fun g e => kp g (by have := lo g e; omega));have Bd : Bw w u3 := by rw [hu3]; exact Dq m _ Bd (by omega)
         rw [← hu3];clear hu3 kp;refine hKz _ _ ⟨hs3, ?_⟩;clear hKz Kz;refine tw 5 8 (.bool false) ?_;refine AR ?_;have OZ := O7.base (base' := w.heap.size) (by omega);obtain ⟨⟨q0, q1, q2⟩, qf⟩ := Q2;replace Q3 := Q3.all;clear qf hs3 O7;go_wp2
         refine bodyPost_ret (v := .tuple #[.agg #[ji r.ep, ji r.ow, ji r.pa], .agg (mc m a7 c7), .bool false]) (by simp [results, results201, go_sem, *]) rfl ⟨a7, c7, by rw [hTR.out, hTM.out, hT.out], OZ, Bd⟩
       focus
        have d7 : (m.li != r.pa) = true := by simpa using h7
        have hT : Hid (CM r s m = false) := by unfold Hid CM; rw [show C7 r s m = false by unfold C7; rw [h1.out, h2.out, h3.out, h4.out, decide_eq_true (show s ≠ r.ow from h5.out), decide_eq_true h6.out, decide_eq_false h7]; rfl]; rfl
        have hTR : Hid (CL r s m = r) := by unfold Hid CL; rw [hT.out]; rfl
        have hTM : Hid (CA r s m = m) := by unfold Hid CA; rw [hT.out]; rfl
        clear h7;have n0 := M.all;obtain ⟨⟨x0, x1, x2⟩, xf⟩ := id A;clear xf;have FR := A.at_;have FM := N.at_;go_upto_region 3 with fail
        refine AV (fun Y => Al Y w.heap.size r ∧ Ac Y q m (.slice a1 m.lg.length c1)) fun u0 kd => ?_
        have hs0 : Al u0 w.heap.size r ∧ Ac u0 q m (.slice a1 m.lg.length c1) := ⟨FR.below kd FR.lt, FM.below kd FM.lt⟩;have Z2 := Z2.below kd Z2.lt;have Z3 := Z3.below kd Z3.lt;have O1 := O1.later kd;have Bd := AE B4 kd
       rotate_left
      rotate_left;focus
       have d6 : decide (m.li ≤ 0) = true := decide_eq_true (by omega);have hT : Hid (CM r s m = false) := by unfold Hid CM; rw [show C7 r s m = false by unfold C7; rw [h1.out, h2.out, h3.out, h4.out, decide_eq_true (show s ≠ r.ow from h5.out), decide_eq_false h6]; rfl]; rfl
       have hTR : Hid (CL r s m = r) := by unfold Hid CL; rw [hT.out]; rfl
       have hTM : Hid (CA r s m = m) := by unfold Hid CA; rw [hT.out]; rfl
       clear h6;have n0 := M.all;obtain ⟨⟨x0, x1, x2⟩, xf⟩ := id A;clear xf;have FR := A.at_;have FM := N.at_;go_upto_region 3 with fail
       refine AV (fun Y => Al Y w.heap.size r ∧ Ac Y q m (.slice a1 m.lg.length c1)) fun u0 kd => ?_
       have hs0 : Al u0 w.heap.size r ∧ Ac u0 q m (.slice a1 m.lg.length c1) := ⟨FR.below kd FR.lt, FM.below kd FM.lt⟩;have Z2 := Z2.below kd Z2.lt;have Z3 := Z3.below kd Z3.lt;have O1 := O1.later kd;have Bd := AE B4 kd
      rotate_left
     rotate_left 2
    rotate_left 3
   rotate_left 4
  rotate_left 5
 rotate_left 6;all_goals
  have lo := O1.lt;refine tw 0 49 (.agg #[ji r.ep, ji r.ow, ji r.pa]) ?_ (hy := by intro Y hSw; obtain ⟨⟨X0, X1, X2⟩, _⟩ := hSw; go_simp);refine tw 1 50 (.agg (mc m a1 c1)) ?_ (hy := by intro Y hSw; obtain ⟨_, X0, X1, X2, X3, X4, X5, X6⟩ := hSw; go_simp);refine w1 2 fun Kz hKz => ?_
  obtain ⟨⟨z0, z1, z2⟩, zf⟩ := id Z2;have g0 := zf 0;have g1 := zf 1;have g2 := zf 2;go_simp
  clear z0 z1 z2 zf g0 g1 g2;obtain ⟨u2, hu2⟩ := AC (((u0.setCell ⟨w.heap.size + 1 + 1, 0, none⟩ (ji r.ep)).setCell ⟨w.heap.size + 1 + 1, 1, none⟩ (ji r.ow)).setCell ⟨w.heap.size + 1 + 1, 2, none⟩ (ji r.pa));have Q2 : Bf u2 (w.heap.size + 1 + 1) r := by rw [hu2]; exact Z2.put r
  have kp : ∀ k, k ≠ w.heap.size + 1 + 1 → u2.heap[k]? = u0.heap[k]? := fun k hk => by rw [hu2]; exact Fz _ _ _ r hk
  have hs2 : Al u2 w.heap.size r ∧ Ac u2 q m (.slice a1 m.lg.length c1) := ⟨hs0.1.keep (kp _ (by omega)), hs0.2.keep (kp _ (by omega))⟩;have Z3 := Z3.keep (kp _ (by omega));have O1 := O1.keep (fun g e => kp g (by have := lo g e; omega));have Bd : Bw w u2 := by rw [hu2]; exact E2 r Bd (by omega)
  rw [← hu2];clear hu2 kp;refine hKz _ _ ⟨hs2, ?_⟩;clear hKz Kz;refine w1 3 fun Kz hKz => ?_
  obtain ⟨z0, z1, z2, z3, z4, z5, z6, zf⟩ := id Z3;have g0 := zf 0;have g1 := zf 1;have g2 := zf 2;have g3 := zf 3;have g4 := zf 4;have g5 := zf 5;have g6 := zf 6;go_simp
  clear z0 z1 z2 z3 z4 z5 z6 zf g0 g1 g2 g3 g4 g5 g6;obtain ⟨u3, hu3⟩ := AC (((((((u2.setCell ⟨w.heap.size + 1 + 1 + 1, 0, none⟩ (.bool m.up)).setCell ⟨w.heap.size + 1 + 1 + 1, 1, none⟩ (ji m.li)).setCell ⟨w.heap.size + 1 + 1 + 1, 2, none⟩ (ji m.ep)).setCell ⟨w.heap.size + 1 + 1 + 1, 3, none⟩ (.slice a1 m.lg.length c1)).setCell ⟨w.heap.size + 1 + 1 + 1, 4, none⟩ (ji m.sd)).setCell ⟨w.heap.size + 1 + 1 + 1, 5, none⟩ (ji m.ac)).setCell ⟨w.heap.size + 1 + 1 + 1, 6, none⟩ (ji m.al));have Q3 : AQ u3 (w.heap.size + 1 + 1 + 1) m (.slice a1 m.lg.length c1) := by rw [hu3]; exact Z3.put m _
  have kp : ∀ k, k ≠ w.heap.size + 1 + 1 + 1 → u3.heap[k]? = u2.heap[k]? := fun k hk => by rw [hu3]; exact DO _ _ _ m _ hk
  have hs3 : Al u3 w.heap.size r ∧ Ac u3 q m (.slice a1 m.lg.length c1) := ⟨hs2.1.keep (kp _ (by omega)), hs2.2.keep (kp _ (by omega))⟩;have Q2 := Q2.keep (kp _ (by omega));have O1 := O1.keep (fun g e => kp g (by have := lo g e; omega));have Bd : Bw w u3 := by rw [hu3]; exact Dq m _ Bd (by omega)
  rw [← hu3];clear hu3 kp;refine hKz _ _ ⟨hs3, ?_⟩;clear hKz Kz;refine tw 4 8 (.bool false) ?_;refine AR ?_;have OZ := O1.base (base' := w.heap.size) (by omega);obtain ⟨⟨q0, q1, q2⟩, qf⟩ := Q2;replace Q3 := Q3.all;clear qf hs3 O1;go_wp2
  refine bodyPost_ret (v := .tuple #[.agg #[ji r.ep, ji r.ow, ji r.pa], .agg (mc m a1 c1), .bool false]) (by simp [results, results201, go_sem, *]) rfl ⟨a1, c1, by rw [hTR.out, hTM.out, hT.out], OZ, Bd⟩
def Df (m : Mi) : Bool :=
 BR m.li && (BR m.ep && (BR m.al && (decide ((m.lg.length : Int) ≤ 60) && (m.lg.all Ay && (decide (0 ≤ m.sd ∧ m.sd ≤ (m.lg.length : Int)) && decide (0 ≤ m.ac ∧ m.ac ≤ (m.lg.length : Int)))))))
theorem KV (m : Mi) (q : Nat) (ad : Option Addr) (cap : Nat) (w : World) (M : CH w q m (.slice ad m.lg.length cap)) (hv : AH AO w ad m.lg) (hl : m.lg.length ≤ 1048577) :
  Calls prog 114 #[.pointer (some (ja q 0))] w fun e w' => e = .returned (.bool (Df m)) ∧ Bw w w' := by
 obtain ⟨R, hR⟩ := AC (Df m);rw [← hR];replace hR : Hid _ := hR;go_enter func114, ntmps114
 go_upto_region 1 with fail
 refine AV (fun Y => Bw w Y) fun u0 hb0 => ?_
 refine tw 0 3 (.pointer (some (ja q 0))) ?_;refine tw 1 4 (.pointer (some (ja q 0))) ?_;refine tw 2 5 (.pointer (some (ja q 1))) ?_;refine tw 3 6 (.pointer (some (ja q 2))) ?_;refine tw 4 7 (ji m.li) ?_ (hy := by intro Y hSw; obtain ⟨X0, X1, X2, X3, X4, X5, X6, XF⟩ := M.below hSw M.lt; go_simp);refine w1 5 fun Kz hKz => ?_
 go_simp
 go_at_call 92
 refine (En m.li u0).mono ?_;rintro e u1 ⟨rfl, kq⟩;replace kq : Bw u0 u1 := by rw [kq]; exact Below.refl _ _
 have hb1 := AE hb0 kq;clear kq;refine hKz _ _ ⟨hb1, ?_⟩;clear hKz Kz;cases h_li : (BR m.li)
 ·
  replace h_li : Hid _ := h_li;refine tw 6 9 (.bool false) ?_;refine ts 7 10 ?_;refine ts 8 11 ?_;refine ts 9 12 ?_;refine ts 10 13 ?_;refine ts 11 14 ?_;refine ts 12 15 ?_;refine tw 13 16 (.bool false) ?_;refine tw 14 17 (.bool false) ?_;refine ts 15 18 ?_;refine ts 16 19 ?_;refine ts 17 20 ?_;refine ts 18 21 ?_;refine ts 19 22 ?_;refine ts 20 23 ?_;refine tw 21 24 (.bool false) ?_;refine tw 22 25 (.bool false) ?_;refine ts 23 26 ?_;refine ts 24 27 ?_;refine ts 25 28 ?_;refine ts 26 29 ?_;refine ts 27 30 ?_;refine tw 28 31 (.bool false) ?_;refine tw 29 32 (.bool false) ?_;refine ts 30 33 ?_;refine ts 31 34 ?_;refine ts 32 35 ?_;refine ts 33 36 ?_;refine tw 34 37 (.bool false) ?_;refine tw 35 38 (.bool false) ?_;refine ts 36 39 ?_;refine ts 37 40 ?_;refine ts 38 41 ?_;refine ts 39 42 ?_;refine ts 40 43 ?_;refine ts 41 44 ?_;refine ts 42 45 ?_;refine ts 43 46 ?_;refine ts 44 47 ?_;refine tw 45 48 (.bool false) ?_;refine tw 46 49 (.bool false) ?_;refine ts 47 50 ?_;refine ts 48 51 ?_;refine ts 49 52 ?_;refine ts 50 53 ?_;refine ts 51 54 ?_;refine ts 52 55 ?_;refine ts 53 56 ?_;refine ts 54 57 ?_;refine ts 55 58 ?_;refine tw 56 59 (.bool false) ?_;refine tw 57 2 (.bool false) ?_;refine AR ?_;have hN : Hid (R = false) := by unfold Hid; rw [hR.out]; unfold Df; rw [h_li.out]; rfl
  go_wp2
  go_ret
  exact ⟨by rw [hN.out]; rfl, hb1⟩
 replace h_li : Hid _ := h_li;refine tw 6 9 (.bool true) ?_;refine tw 7 10 (.pointer (some (ja q 0))) ?_;refine tw 8 11 (.pointer (some (ja q 0))) ?_;refine tw 9 12 (.pointer (some (ja q 1))) ?_;refine tw 10 13 (.pointer (some (ja q 3))) ?_;refine tw 11 14 (ji m.ep) ?_ (hy := by intro Y hSw; obtain ⟨X0, X1, X2, X3, X4, X5, X6, XF⟩ := M.below hSw M.lt; go_simp);refine w1 12 fun Kz hKz => ?_
 go_simp
 go_at_call 92
 refine (En m.ep u1).mono ?_;rintro e u2 ⟨rfl, kq⟩;replace kq : Bw u1 u2 := by rw [kq]; exact Below.refl _ _
 have hb2 := AE hb1 kq;clear kq;refine hKz _ _ ⟨hb2, ?_⟩;clear hKz Kz;cases h_ep : (BR m.ep)
 ·
  replace h_ep : Hid _ := h_ep;refine tw 13 16 (.bool false) ?_;refine tw 14 17 (.bool false) ?_;refine ts 15 18 ?_;refine ts 16 19 ?_;refine ts 17 20 ?_;refine ts 18 21 ?_;refine ts 19 22 ?_;refine ts 20 23 ?_;refine tw 21 24 (.bool false) ?_;refine tw 22 25 (.bool false) ?_;refine ts 23 26 ?_;refine ts 24 27 ?_;refine ts 25 28 ?_;refine ts 26 29 ?_;refine ts 27 30 ?_;refine tw 28 31 (.bool false) ?_;refine tw 29 32 (.bool false) ?_;refine ts 30 33 ?_;refine ts 31 34 ?_;refine ts 32 35 ?_;refine ts 33 36 ?_;refine tw 34 37 (.bool false) ?_;refine tw 35 38 (.bool false) ?_;refine ts 36 39 ?_;refine ts 37 40 ?_;refine ts 38 41 ?_;refine ts 39 42 ?_;refine ts 40 43 ?_;refine ts 41 44 ?_;refine ts 42 45 ?_;refine ts 43 46 ?_;refine ts 44 47 ?_;refine tw 45 48 (.bool false) ?_;refine tw 46 49 (.bool false) ?_;refine ts 47 50 ?_;refine ts 48 51 ?_;refine ts 49 52 ?_;refine ts 50 53 ?_;refine ts 51 54 ?_;refine ts 52 55 ?_;refine ts 53 56 ?_;refine ts 54 57 ?_;refine ts 55 58 ?_;refine tw 56 59 (.bool false) ?_;refine tw 57 2 (.bool false) ?_;refine AR ?_;have hN : Hid (R = false) := by unfold Hid; rw [hR.out]; unfold Df; rw [h_li.out, h_ep.out]; rfl
  go_wp2
  go_ret
  exact ⟨by rw [hN.out]; rfl, hb2⟩
 replace h_ep : Hid _ := h_ep;refine tw 13 16 (.bool true) ?_;refine tw 14 17 (.bool true) ?_;refine tw 15 18 (.pointer (some (ja q 0))) ?_;refine tw 16 19 (.pointer (some (ja q 0))) ?_;refine tw 17 20 (.pointer (some (ja q 1))) ?_;refine tw 18 21 (.pointer (some (ja q 6))) ?_;refine tw 19 22 (ji m.al) ?_ (hy := by intro Y hSw; obtain ⟨X0, X1, X2, X3, X4, X5, X6, XF⟩ := M.below hSw M.lt; go_simp);refine w1 20 fun Kz hKz => ?_
 go_simp
 go_at_call 92
 refine (En m.al u2).mono ?_;rintro e u3 ⟨rfl, kq⟩;replace kq : Bw u2 u3 := by rw [kq]; exact Below.refl _ _
 have hb3 := AE hb2 kq;clear kq;refine hKz _ _ ⟨hb3, ?_⟩;clear hKz Kz;cases h_al : (BR m.al)
 ·
  replace h_al : Hid _ := h_al;refine tw 21 24 (.bool false) ?_;refine tw 22 25 (.bool false) ?_;refine ts 23 26 ?_;refine ts 24 27 ?_;refine ts 25 28 ?_;refine ts 26 29 ?_;refine ts 27 30 ?_;refine tw 28 31 (.bool false) ?_;refine tw 29 32 (.bool false) ?_;refine ts 30 33 ?_;refine ts 31 34 ?_;refine ts 32 35 ?_;refine ts 33 36 ?_;refine tw 34 37 (.bool false) ?_;refine tw 35 38 (.bool false) ?_;refine ts 36 39 ?_;refine ts 37 40 ?_;refine ts 38 41 ?_;refine ts 39 42 ?_;refine ts 40 43 ?_;refine ts 41 44 ?_;refine ts 42 45 ?_;refine ts 43 46 ?_;refine ts 44 47 ?_;refine tw 45 48 (.bool false) ?_;refine tw 46 49 (.bool false) ?_;refine ts 47 50 ?_;refine ts 48 51 ?_;refine ts 49 52 ?_;refine ts 50 53 ?_;refine ts 51 54 ?_;refine ts 52 55 ?_;refine ts 53 56 ?_;refine ts 54 57 ?_;refine ts 55 58 ?_;refine tw 56 59 (.bool false) ?_;refine tw 57 2 (.bool false) ?_;refine AR ?_;have hN : Hid (R = false) := by unfold Hid; rw [hR.out]; unfold Df; rw [h_li.out, h_ep.out, h_al.out]; rfl
  go_wp2
  go_ret
  exact ⟨by rw [hN.out]; rfl, hb3⟩
 replace h_al : Hid _ := h_al;refine tw 21 24 (.bool true) ?_;refine tw 22 25 (.bool true) ?_;refine tw 23 26 (.pointer (some (ja q 0))) ?_;refine tw 24 27 (.pointer (some (ja q 0))) ?_;refine tw 25 28 (.pointer (some (ja q 0))) ?_;refine w1 26 fun Kz hKz => ?_
 go_simp
 go_at_call 140
 refine (Et q m.lg.length ad cap u3 (M.below hb3 M.lt).c0).mono ?_;rintro e u4 ⟨rfl, kq⟩;replace kq : Bw u3 u4 := by rw [kq]; exact Below.refl _ _
 have hb4 := AE hb3 kq;clear kq;refine hKz _ _ ⟨hb4, ?_⟩;clear hKz Kz;refine tw 27 30 (.bool (decide ((m.lg.length : Int) ≤ 60))) ?_;cases h_len : (decide ((m.lg.length : Int) ≤ 60))
 ·
  replace h_len : Hid _ := h_len;refine tw 28 31 (.bool false) ?_;refine tw 29 32 (.bool false) ?_;refine ts 30 33 ?_;refine ts 31 34 ?_;refine ts 32 35 ?_;refine ts 33 36 ?_;refine tw 34 37 (.bool false) ?_;refine tw 35 38 (.bool false) ?_;refine ts 36 39 ?_;refine ts 37 40 ?_;refine ts 38 41 ?_;refine ts 39 42 ?_;refine ts 40 43 ?_;refine ts 41 44 ?_;refine ts 42 45 ?_;refine ts 43 46 ?_;refine ts 44 47 ?_;refine tw 45 48 (.bool false) ?_;refine tw 46 49 (.bool false) ?_;refine ts 47 50 ?_;refine ts 48 51 ?_;refine ts 49 52 ?_;refine ts 50 53 ?_;refine ts 51 54 ?_;refine ts 52 55 ?_;refine ts 53 56 ?_;refine ts 54 57 ?_;refine ts 55 58 ?_;refine tw 56 59 (.bool false) ?_;refine tw 57 2 (.bool false) ?_;refine AR ?_;have hN : Hid (R = false) := by unfold Hid; rw [hR.out]; unfold Df; rw [h_li.out, h_ep.out, h_al.out, h_len.out]; rfl
  go_wp2
  go_ret
  exact ⟨by rw [hN.out]; rfl, hb4⟩
 replace h_len : Hid _ := h_len;refine tw 28 31 (.bool true) ?_;refine tw 29 32 (.bool true) ?_;refine tw 30 33 (.pointer (some (ja q 0))) ?_;refine tw 31 34 (.pointer (some (ja q 0))) ?_;refine tw 32 35 (.pointer (some (ja q 0))) ?_;refine w1 33 fun Kz hKz => ?_
 go_simp
 go_at_call 141
 refine (Ka q ad cap m.lg u4 (M.below hb4 M.lt).c0 (hv.below hb4 (hv.lt AT (by omega))) hl).mono ?_;rintro e u5 ⟨rfl, kq⟩;have hb5 := AE hb4 kq;clear kq;refine hKz _ _ ⟨hb5, ?_⟩;clear hKz Kz;cases h_all : (m.lg.all Ay)
 ·
  replace h_all : Hid _ := h_all;refine tw 34 37 (.bool false) ?_;refine tw 35 38 (.bool false) ?_;refine ts 36 39 ?_;refine ts 37 40 ?_;refine ts 38 41 ?_;refine ts 39 42 ?_;refine ts 40 43 ?_;refine ts 41 44 ?_;refine ts 42 45 ?_;refine ts 43 46 ?_;refine ts 44 47 ?_;refine tw 45 48 (.bool false) ?_;refine tw 46 49 (.bool false) ?_;refine ts 47 50 ?_;refine ts 48 51 ?_;refine ts 49 52 ?_;refine ts 50 53 ?_;refine ts 51 54 ?_;refine ts 52 55 ?_;refine ts 53 56 ?_;refine ts 54 57 ?_;refine ts 55 58 ?_;refine tw 56 59 (.bool false) ?_;refine tw 57 2 (.bool false) ?_;refine AR ?_;have hN : Hid (R = false) := by unfold Hid; rw [hR.out]; unfold Df; rw [h_li.out, h_ep.out, h_al.out, h_len.out, h_all.out]; rfl
  go_wp2
  go_ret
  exact ⟨by rw [hN.out]; rfl, hb5⟩
 replace h_all : Hid _ := h_all;refine tw 34 37 (.bool true) ?_;refine tw 35 38 (.bool true) ?_;refine tw 36 39 (.pointer (some (ja q 0))) ?_;refine tw 37 40 (.pointer (some (ja q 0))) ?_;refine tw 38 41 (.pointer (some (ja q 0))) ?_;refine tw 39 42 (.pointer (some (ja q 0))) ?_;refine tw 40 43 (.pointer (some (ja q 0))) ?_;refine tw 41 44 (.pointer (some (ja q 1))) ?_;refine tw 42 45 (.pointer (some (ja q 4))) ?_;refine tw 43 46 (ji m.sd) ?_ (hy := by intro Y hSw; obtain ⟨X0, X1, X2, X3, X4, X5, X6, XF⟩ := M.below hSw M.lt; go_simp);refine w1 44 fun Kz hKz => ?_
 go_simp
 go_at_call 142
 refine (Hy q m.lg.length ad cap m.sd u5 (M.below hb5 M.lt).c0).mono ?_;rintro e u6 ⟨rfl, kq⟩;replace kq : Bw u5 u6 := by rw [kq]; exact Below.refl _ _
 have hb6 := AE hb5 kq;clear kq;refine hKz _ _ ⟨hb6, ?_⟩;clear hKz Kz;cases h_sd : (decide (0 ≤ m.sd ∧ m.sd ≤ (m.lg.length : Int)))
 ·
  replace h_sd : Hid _ := h_sd;refine tw 45 48 (.bool false) ?_;refine tw 46 49 (.bool false) ?_;refine ts 47 50 ?_;refine ts 48 51 ?_;refine ts 49 52 ?_;refine ts 50 53 ?_;refine ts 51 54 ?_;refine ts 52 55 ?_;refine ts 53 56 ?_;refine ts 54 57 ?_;refine ts 55 58 ?_;refine tw 56 59 (.bool false) ?_;refine tw 57 2 (.bool false) ?_;refine AR ?_;have hN : Hid (R = false) := by unfold Hid; rw [hR.out]; unfold Df; rw [h_li.out, h_ep.out, h_al.out, h_len.out, h_all.out, h_sd.out]; rfl
  go_wp2
  go_ret
  exact ⟨by rw [hN.out]; rfl, hb6⟩
 replace h_sd : Hid _ := h_sd;refine tw 45 48 (.bool true) ?_;refine tw 46 49 (.bool true) ?_;refine tw 47 50 (.pointer (some (ja q 0))) ?_;refine tw 48 51 (.pointer (some (ja q 0))) ?_;refine tw 49 52 (.pointer (some (ja q 0))) ?_;refine tw 50 53 (.pointer (some (ja q 0))) ?_;refine tw 51 54 (.pointer (some (ja q 0))) ?_;refine tw 52 55 (.pointer (some (ja q 1))) ?_;refine tw 53 56 (.pointer (some (ja q 5))) ?_;refine tw 54 57 (ji m.ac) ?_ (hy := by intro Y hSw; obtain ⟨X0, X1, X2, X3, X4, X5, X6, XF⟩ := M.below hSw M.lt; go_simp);refine w1 55 fun Kz hKz => ?_
 go_simp
 go_at_call 142
 refine (Hy q m.lg.length ad cap m.ac u6 (M.below hb6 M.lt).c0).mono ?_;rintro e u7 ⟨rfl, kq⟩;replace kq : Bw u6 u7 := by rw [kq]; exact Below.refl _ _
 have hb7 := AE hb6 kq;clear kq;refine hKz _ _ ⟨hb7, ?_⟩;clear hKz Kz;cases h_ac : (decide (0 ≤ m.ac ∧ m.ac ≤ (m.lg.length : Int)))
 ·
  replace h_ac : Hid _ := h_ac;refine tw 56 59 (.bool false) ?_;refine tw 57 2 (.bool false) ?_;refine AR ?_;have hN : Hid (R = false) := by unfold Hid; rw [hR.out]; unfold Df; rw [h_li.out, h_ep.out, h_al.out, h_len.out, h_all.out, h_sd.out, h_ac.out]; rfl
  go_wp2
  go_ret
  exact ⟨by rw [hN.out]; rfl, hb7⟩
 replace h_ac : Hid _ := h_ac;refine tw 56 59 (.bool true) ?_;refine tw 57 2 (.bool true) ?_;refine AR ?_;have hN : Hid (R = true) := by unfold Hid; rw [hR.out]; unfold Df; rw [h_li.out, h_ep.out, h_al.out, h_len.out, h_all.out, h_sd.out, h_ac.out]; rfl
 go_wp2
 go_ret
 exact ⟨by rw [hN.out]; rfl, hb7⟩
end Go.Proofs.YtjmnaeeknomiaaaGreat
