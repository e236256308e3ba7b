import Derived.Test.YthgcbihhdbpbdaaGreatRM11
namespace Go.Proofs.YthgcbihhdbpbdaaGreat
open Go.ChangeShapes Go.WideShapes Go.ChangeAt Go.RowKit
open Go.ChangeMaps (open_string shut_string)
set_option linter.unusedVariables false
set_option maxRecDepth 100000
set_option maxHeartbeats 32000000
set_option linter.unusedSimpArgs false
open Go.Proofs.Tryz
attribute [local go_sem] ji ja bc
theorem Ji (x : AG) (w : World) (hJ : Ct w x) :
  Calls prog 30 #[.agg (bc x)] w fun e w' => YN e (AX x.p = true ∧ Dh x.p) ∧ Bw w w' := by
 obtain ⟨Q, hQ⟩ : ∃ Q : Prop, Q = (AX x.p = true ∧ Dh x.p) := ⟨_, rfl⟩;rw [← hQ];replace hQ : Hid _ := hQ;obtain ⟨y, hy, B⟩ := AI w (Obj.cells (bc x) 34);have A : AZ y w.heap.size x := by rw [hy]; exact AZ.new w _ x
 have J := hJ.later B;go_enter func30, ntmps30
 go_upto_region 1 with fail
 rw [← hy];clear hy;have a0 := A.all;go_wp2_with fail
 go_at_call 17
 clear a0;refine (E7 x y J.v).mono ?_;rintro e u1 ⟨rfl, kq⟩;have A := A.below kq A.lt;have J := J.later kq;have B := AA B kq;clear kq;obtain ⟨ob, hob⟩ : ∃ b, AX x.p = b := ⟨_, rfl⟩;rw [hob];cases ob
 ·
  replace hob : Hid _ := hob;go_wp2
  go_ret
  exact ⟨YN.no (fun q_ => by have h1 := (hQ.out ▸ q_ : AX x.p = true ∧ Dh x.p).1; rw [hob.out] at h1; cases h1), B⟩
 have hb := hob;have hln : x.ln.length ≤ 60 := (DU hb).2.2.2.2.1;have hga : x.ga.length ≤ 4 := (DU hb).2.2.2.1;have hQ2 : Hid (Q ↔ BK (Ck x.id x.po x.ln) = x.ga) := by unfold Hid; rw [hQ.out]; exact ⟨fun h => h.2, fun h => ⟨hb, h⟩⟩
 have hR4 := Ga x.id x.po x.ln;have hG4 := Ed (Ck x.id x.po x.ln);obtain ⟨I, hI⟩ : ∃ v, Bf x.id x.po = v := ⟨_, rfl⟩;obtain ⟨D, hD⟩ : ∃ v, Ck x.id x.po x.ln = v := ⟨_, rfl⟩;rw [hD] at hQ2 hR4 hG4;obtain ⟨G, hG⟩ : ∃ v, BK D = v := ⟨_, rfl⟩;rw [hG] at hQ2 hG4;have hG5 : G.length ≤ 4 := by omega
 replace hI : Hid _ := hI;replace hD : Hid _ := hD;replace hG : Hid _ := hG;replace hb : Hid _ := hb;clear hQ hob hG4;obtain ⟨a0, a1, a2, a3, a4, a5, a6, a7, a8, a9⟩ := id A;go_wp2_with fail
 go_at_call 75
 clear a0 a1 a2 a3 a4 a5 a6 a7 a8 a9;refine (G7 x.id x.po x.aL x.cL x.ln u1 J.v.i (by omega)).mono ?_;rintro e u2 ⟨a1, c1, rfl, O1, kq⟩;rw [hD.out] at O1;rw [hI.out, hD.out];have A := A.below kq A.lt;have J := J.later kq;have B := AA B kq;clear kq;go_wp2_with fail
 go_at_call 35
 refine (Hr I a1 c1 D u2 O1.view.2 (by omega)).mono ?_;rintro e u3 ⟨a2, c2, rfl, O2, kq⟩;rw [hG.out] at O2 ⊢;have A := A.below kq A.lt;have J := J.later kq;have B := AA B kq;have VG := O2.view.2;have VX := J.v.g;clear kq O1 O2 J;have hBg := VG.lt DE (by omega);have hBx := VX.lt DE (by omega);replace hI : True := trivial;clear hD hG;go_upto_region 5 with fail
 go_loopw [4] (fun i wr => ∃ k : Nat, k ≤ G.length ∧ k ≤ x.ga.length ∧ i = .int .i64 (k : Int) ∧ Hid (∀ j, j < k → G.getD j false = x.ga.getD j false) ∧ Below u3.heap.size u3 wr) (fun i _ => G.length - (intOf i).toNat)
 case atStart => exact ⟨0, Nat.zero_le _, Nat.zero_le _, rfl, fun j hj => absurd hj (by omega), Below.refl _ _⟩
 case round =>
  obtain ⟨k, hk, hk', rfl, hF, hb9⟩ := hrel;have A := A.below hb9 A.lt;have B := AA B hb9;have a0 := A.all;by_cases hlt : k < G.length
  ·
   have d1 : decide ((k : Int) < (G.length : Int)) = true := decide_eq_true (by omega);by_cases hlt' : k < x.ga.length
   ·
    have d2 : decide ((k : Int) < (x.ga.length : Int)) = true := decide_eq_true (by omega);obtain ⟨b, off, rfl, _⟩ := VG (by omega);obtain ⟨b', off', hat, _⟩ := VX (by omega);obtain ⟨h, hh⟩ : ∃ h, G.getD k false = h := ⟨_, rfl⟩;obtain ⟨h', hh'⟩ : ∃ h, x.ga.getD k false = h := ⟨_, rfl⟩;have hc : ∀ Y, Bw wr Y → Y.cell? ⟨b, off + k, none⟩ = some (.bool h) := fun Y hY => by have h1 := (VG.below (AA hb9 hY) hBg).at_ DE false hlt 0 (.bool (G.getD k false)) rfl; rw [hh] at h1; simpa using h1
    have hc' : ∀ Y, Bw wr Y → Y.cell? ⟨b', off' + k, none⟩ = some (.bool h') := fun Y hY => by have h0 := VX.below (AA hb9 hY) hBx; rw [hat] at h0; have h1 := h0.at_ DE false hlt' 0 (.bool (x.ga.getD k false)) rfl; rw [hh'] at h1; simpa using h1
    replace hh : Hid _ := hh;replace hh' : Hid _ := hh';replace hat : Hid _ := hat;clear VG VX hBg hBx;by_cases he : h = h'
    ·
     have heq : ∀ w, (binOp .neq 4 (.bool h) (.bool h')).run prog w = .ok (.bool false) w := fun w => by subst he; exact HQ h w
     replace he : Hid _ := he;go_upto_region 7 with fail
     clear a0;refine AR (fun Y => Bw wr Y) fun u0 hb0 => ?_
     refine tw 0 29 (.slice (some (ja b off)) G.length c2) ?_;refine tw 1 30 (ji (k : Int)) ?_;refine tw 2 31 (.pointer (some ⟨b, off + k, none⟩)) ?_ (hy := by intro Y hSw; go_simp; try omega);refine tw 3 32 (.bool h) ?_ (hy := by intro Y hSw; have X0 := hc Y hSw; go_simp);refine tw 4 33 (.pointer (some (ja w.heap.size 7))) ?_;refine tw 5 34 (.slice (some ⟨b', off', none⟩) x.ga.length x.cG) ?_ (hy := by intro Y hSw; have X := (A.below hSw A.lt).all; rw [hat.out] at X; go_simp);refine tw 6 35 (ji (k : Int)) ?_;refine tw 7 36 (.pointer (some ⟨b', off' + k, none⟩)) ?_ (hy := by intro Y hSw; go_simp; try omega);refine tw 8 37 (.bool h') ?_ (hy := by intro Y hSw; have X0 := hc' Y hSw; go_simp);refine tw 9 38 (.bool false) ?_ (hy := by intro w hSw; have hq := heq w; go_simp);refine AM ?_;go_wp2
     go_roundw
     case rel =>
      refine ⟨k + 1, by omega, by omega, by go_num, fun j hj => ?_, AA hb9 hb0⟩;by_cases ej : j = k
      ·
       rw [ej, hh.out, hh'.out]; exact he.out
      exact hF.out j (by omega)
     case measure => simp [intOf]; omega
    have heq : ∀ w, (binOp .neq 4 (.bool h) (.bool h')).run prog w = .ok (.bool true) w := fun w => HR he w
    replace he : Hid (¬ h = h') := he;go_upto_region 7 with fail
    clear a0;refine AR (fun Y => Bw wr Y) fun u0 hb0 => ?_
    refine tw 0 29 (.slice (some (ja b off)) G.length c2) ?_;refine tw 1 30 (ji (k : Int)) ?_;refine tw 2 31 (.pointer (some ⟨b, off + k, none⟩)) ?_ (hy := by intro Y hSw; go_simp; try omega);refine tw 3 32 (.bool h) ?_ (hy := by intro Y hSw; have X0 := hc Y hSw; go_simp);refine tw 4 33 (.pointer (some (ja w.heap.size 7))) ?_;refine tw 5 34 (.slice (some ⟨b', off', none⟩) x.ga.length x.cG) ?_ (hy := by intro Y hSw; have X := (A.below hSw A.lt).all; rw [hat.out] at X; go_simp);refine tw 6 35 (ji (k : Int)) ?_;refine tw 7 36 (.pointer (some ⟨b', off' + k, none⟩)) ?_ (hy := by intro Y hSw; go_simp; try omega);refine tw 8 37 (.bool h') ?_ (hy := by intro Y hSw; have X0 := hc' Y hSw; go_simp);refine tw 9 38 (.bool true) ?_ (hy := by intro w hSw; have hq := heq w; go_simp);refine AM ?_;have B := AA B hb0;go_wp2
    go_ret
    exact ⟨YN.no (fun q_ => he.out (hh.out.symm.trans ((congrArg (fun z => z.getD k false) (hQ2.out.1 q_)).trans hh'.out))), B⟩
   have d2 : decide ((k : Int) < (x.ga.length : Int)) = false := decide_eq_false (by omega);have d3 : ((G.length : Int) == (x.ga.length : Int)) = false := by rw [beq_eq_false_iff_ne]; omega
   have d3' : (G.length == x.ga.length) = false := by rw [beq_eq_false_iff_ne]; omega
   have hn : Hid (¬ G.length = x.ga.length) := by unfold Hid; omega
   go_wp2
   go_ret
   exact ⟨YN.no (fun q_ => hn.out (congrArg List.length (hQ2.out.1 q_))), B⟩
  obtain rfl : k = G.length := by omega
  have d1 : decide ((G.length : Int) < (G.length : Int)) = false := decide_eq_false (by omega);by_cases hn : G.length = x.ga.length
  ·
   have d3 : ((G.length : Int) == (x.ga.length : Int)) = true := by rw [beq_iff_eq]; omega
   have d3' : (G.length == x.ga.length) = true := by rw [beq_iff_eq]; exact hn
   replace hn : Hid _ := hn;go_wp2
   go_ret
   exact ⟨YN.yes (hQ2.out.2 (by apply List.ext_getElem hn.out; intro i h1 h2; have h3 := hF.out i h1; rw [List.getD_eq_getElem?_getD, List.getD_eq_getElem?_getD, List.getElem?_eq_getElem h1, List.getElem?_eq_getElem h2] at h3; exact h3)), B⟩
  have d3 : ((G.length : Int) == (x.ga.length : Int)) = false := by rw [beq_eq_false_iff_ne]; omega
  have d3' : (G.length == x.ga.length) = false := by rw [beq_eq_false_iff_ne]; exact hn
  replace hn : Hid (¬ G.length = x.ga.length) := hn;go_wp2
  go_ret
  exact ⟨YN.no (fun q_ => hn.out (congrArg List.length (hQ2.out.1 q_))), B⟩
attribute [local go_sem] ic
theorem KE (x : AG) (w : World) (hJ : Ct w x) :
  Calls prog 31 #[.agg (bc x)] w fun e w' => YN e (AX x.p = true ∧ Dm x.p) ∧ Bw w w' := by
 obtain ⟨i0, hi, hz0, hz1, hz2⟩ := info_parts ES;obtain ⟨Q, hQ⟩ : ∃ Q : Prop, Q = (AX x.p = true ∧ Dm x.p) := ⟨_, rfl⟩;rw [← hQ];replace hQ : Hid _ := hQ;obtain ⟨y, hy, B⟩ := AI w (Obj.cells (bc x) 34);have A : AZ y w.heap.size x := by rw [hy]; exact AZ.new w _ x
 have J := hJ.later B;go_enter func31, ntmps31
 go_upto_region 1 with fail
 rw [← hy];clear hy;obtain ⟨a0, a1, a2, a3, a4, a5, a6, a7, a8, a9⟩ := id A;go_wp2_with fail
 go_at_call 17
 clear a0 a1 a2 a3 a4 a5 a6 a7 a8 a9;refine (E7 x y J.v).mono ?_;rintro e u1 ⟨rfl, kq⟩;have A := A.below kq A.lt;have J := J.later kq;have B := AA B kq;clear kq;obtain ⟨ob, hob⟩ : ∃ b, AX x.p = b := ⟨_, rfl⟩;rw [hob];cases ob
 ·
  replace hob : Hid _ := hob;go_wp2
  go_ret
  exact ⟨YN.no (fun q_ => by have h1 := (hQ.out ▸ q_ : AX x.p = true ∧ Dm x.p).1; rw [hob.out] at h1; cases h1), B⟩
 have hb := hob;have hln : x.ln.length ≤ 60 := (DU hb).2.2.2.2.1;have hsd : x.sd.length ≤ 40 := (DU hb).2.2.2.2.2;have hNl := FG x.id x.po;obtain ⟨I, hI⟩ : ∃ v, Bf x.id x.po = v := ⟨_, rfl⟩;obtain ⟨N, hN⟩ : ∃ v, Ap x.id x.po = v := ⟨_, rfl⟩;have hQ2 : Hid (Q ↔ Bv (Cu I N x.ln) = x.sd) := by unfold Hid; rw [hQ.out, ← hI, ← hN]; exact ⟨fun h => h.2, fun h => ⟨hb, h⟩⟩
 rw [hN] at hNl;replace hI : Hid _ := hI;replace hN : Hid _ := hN;clear hQ hob hb;go_upto_region 4 with fail
 obtain ⟨y1, hy1, kq⟩ := AI u1 (Obj.cells #[] 77);rw [← hy1];have F0 : AD Ad 8 77 u1.heap.size y1 (.slice (some (ja u1.heap.size 0)) 0 0) [] := by rw [hy1]; exact AD.empty u1
 clear hy1;have lA := A.lt;have A := A.below kq A.lt;have B := AA B kq;have F := F0.base (base' := w.heap.size + 1) (by omega);have lF0 := F0.lt;have sy1 := kq.size;clear kq F0 J;obtain ⟨a0, a1, a2, a3, a4, a5, a6, a7, a8, a9⟩ := id A;go_wp2_with fail
 go_at_call 14
 clear a0 a1 a2 a3 a4 a5 a6 a7 a8 a9;refine (F1 x.id x.po y1).mono ?_;rintro e u2 ⟨a1, c1, rfl, O1, kq⟩;rw [hN.out] at O1;rw [hI.out, hN.out];obtain ⟨nk, hnk⟩ : ∃ b, Ay x.id x.po = b := ⟨_, rfl⟩;rw [hnk];clear hI hN hnk;have A := A.below kq A.lt;have F := F.later kq;have B := AA B kq;have s1 := kq.size;have lo1 := O1.lt;clear kq;obtain ⟨u3, hu3, k2⟩ := AI u2 (Obj.cells #[ji I, .slice a1 N.length c1] 42);have P := AP.new u2 42 I (.slice a1 N.length c1);rw [← hu3] at P;have B := AA B k2;have A := A.below k2 A.lt;have F := F.later k2;have O1 := O1.later k2;go_upto_region 6 with fail
 rw [← hu3];clear hu3 k2;obtain ⟨p, hp⟩ := AB u2.heap.size;rw [← hp] at P s1 lo1 ⊢;clear hp;have lp : w.heap.size < p := by omega
 have e0 : ∀ g, (Value.slice (some (ja u1.heap.size 0)) 0 0).ownBlock = some g → g ≠ p := fun g e => by have := (lF0 g e).2; omega
 have e1 : ∀ g, (Value.slice a1 N.length c1).ownBlock = some g → g ≠ p := fun g e => by have := lo1 g e; omega
 go_loopw [3, 6] (fun v i wr => ∃ (k : Nat) (a : Option Addr) (c : Nat) (L : List Pt) (W : List Ou), k ≤ x.ln.length ∧ i = .int .i64 (k : Int) ∧ Hid (CL I N (x.ln.take k) = L) ∧ Hid (Cu I N (x.ln.take k) = W) ∧ AP wr p I (.slice a L.length c) ∧ AD AJ 11 70 w.heap.size wr (.slice a L.length c) L ∧ (∀ g, (Value.slice a L.length c).ownBlock = some g → g ≠ p) ∧ AD Ad 8 77 (w.heap.size + 1) wr v W ∧ (∀ g, v.ownBlock = some g → g ≠ p) ∧ AZ wr w.heap.size x ∧ Below w.heap.size w wr) (fun _ i _ => x.ln.length - (intOf i).toNat)
 case atStart => exact ⟨0, a1, c1, N, [], Nat.zero_le _, rfl, rfl, rfl, P, O1.base (by omega), e1, F, e0, A, B⟩
 case round =>
  obtain ⟨k, a, c, L, W, hk, rfl, hL, hS, P, O, hne, F, hnv, A, B⟩ := hrel;have hLl : L.length ≤ 4 := by rw [← hL.out, FS]; exact hNl
  have hWl : W.length ≤ 8 * k := by rw [← hS.out]; have h1 := Iy I N (x.ln.take k); rw [List.length_take] at h1; omega
  clear O1 lo1 e0 e1 lF0;have J := hJ.later B;by_cases hlt : k < x.ln.length
  ·
   have hst := Fp I N x.ln Ao hlt;have hso := GL I N x.ln Ao hlt;rw [hL.out] at hst hso;rw [hS.out] at hso;clear hL hS;obtain ⟨b, off, hat, _⟩ := J.v.i (by omega);obtain ⟨d, hh⟩ : ∃ d, x.ln.getD k Ao = d := ⟨_, rfl⟩;rw [hh] at hst hso;have gl : b < wr.heap.size := J.v.i.lt Aa (by omega) _ hat (by omega);have hck : Bl wr b (off + k * 8) d := by have h1 := J.v.i; rw [hat] at h1; rw [← hh]; exact DT (h1.at_ Aa Ao hlt)
   have hOl := Ff I L d;obtain ⟨M, hM⟩ : ∃ M, Ba I L d = M := ⟨_, rfl⟩;obtain ⟨OO, hOO⟩ : ∃ M, BT I L d = M := ⟨_, rfl⟩;rw [hM] at hst;rw [hOO] at hso hOl;replace hst : Hid _ := hst;replace hso : Hid _ := hso;replace hat : Hid _ := hat;replace hM : Hid _ := hM;replace hOO : Hid _ := hOO;clear hh J;have d0 : decide ((k : Int) < (x.ln.length : Int)) = true := decide_eq_true (by omega);obtain ⟨a0, a1, a2, a3, a4, a5, a6, a7, a8, a9⟩ := id A;go_upto_region 8 with fail
   clear a0 a1 a2 a3 a4 a5 a6 a7 a8 a9 d0;refine AR (fun Y => Bw wr Y) fun u0 hb0 => ?_
   refine tw 0 30 (.agg #[ji I, .slice a L.length c]) ?_ (hy := by intro Y hSw; obtain ⟨X0, X1⟩ := P.at_.below hSw P.lt; go_simp);refine tw 1 31 (.pointer (some (ja w.heap.size 8))) ?_;refine tw 2 32 (.slice (some (ja b off)) x.ln.length x.cL) ?_ (hy := by intro Y hSw; have X := (A.below hSw A.lt).all; rw [hat.out] at X; go_simp);refine tw 3 33 (ji (k : Int)) ?_;refine tw 4 34 (.pointer (some ⟨b, off + k * 8, none⟩)) ?_ (hy := by intro Y hSw; go_simp; try omega);refine tw 5 35 (.agg (ic d)) ?_ (hy := by intro Y hSw; have X := (Bl.below hck hSw gl).all; go_simp);refine wpAnyH_all (rs := [6, 10]) (by kernel_rfl) (by simp) ?_;intro i hi; rcases (by simpa using hi : i = 6 ∨ i = 10) with rfl | rfl
   focus
    refine Am rfl fun Kz hKz => ?_
    go_simp
    go_at_call 39
    refine (E4 I a c L d u0 (O.later hb0).view.2 (by omega) (O.later hb0).capn).mono ?_;rintro e v1 ⟨a2, c2, o2, d2, rfl, O2, Q2, hap_, k2⟩;clear hap_;rw [hM.out] at O2 ⊢;rw [hOO.out] at Q2 ⊢;have szc := hb0.size;have hb1 : Bw wr v1 := hb0.trans (k2.mono szc);have O2 := O2.base (base' := wr.heap.size) szc;have Q2 := Q2.base (base' := wr.heap.size) szc;clear k2 szc;refine hKz _ _ ⟨hb1, ?_⟩;clear hKz Kz hi;refine tw 7 29 (.tuple #[.agg #[ji I, .slice a2 M.length c2], .slice o2 OO.length d2]) ?_;refine tw 8 37 (.agg #[ji I, .slice a2 M.length c2]) ?_;refine tw 9 38 (.slice o2 OO.length d2) ?_;refine w1 10 fun Kz hKz => ?_
    go_simp
    obtain ⟨v2, hal, ka⟩ := AI v1 (Obj.cells #[ji 0, .slice none 0 0] 42);have N7 : AP v2 v1.heap.size 0 (.slice none 0 0) := by rw [hal]; exact AP.new v1 _ _ _
    rw [← hal];have hq7 := hb1.size;have hb2 : Bw wr v2 := hb1.trans (ka.mono hq7);have ap1 : ∀ g, (Value.slice a2 M.length c2).ownBlock = some g → g ≠ v1.heap.size := fun g e => by have := (O2.lt g e).2; omega
    have ap2 : ∀ g, (Value.slice o2 OO.length d2).ownBlock = some g → g ≠ v1.heap.size := fun g e => by have := (Q2.lt g e).2; omega
    have O2 := O2.later ka;have Q2 := Q2.later ka;obtain ⟨p7, h7⟩ := AB v1.heap.size;have hp7 : wr.heap.size ≤ p7 := by rw [h7]; exact hq7
    rw [← h7] at N7 ap1 ap2 ⊢;clear hal ka h7 hq7;refine hKz _ _ ⟨hb2, ?_⟩;clear hKz Kz
   rotate_left;focus
    refine Am rfl fun Kz hKz => ?_
    go_simp
    obtain ⟨v1, hal, ka⟩ := AI u0 (Obj.cells #[ji 0, .slice none 0 0] 42);have N7 : AP v1 u0.heap.size 0 (.slice none 0 0) := by rw [hal]; exact AP.new u0 _ _ _
    rw [← hal];have hq7 := hb0.size;have hb1 : Bw wr v1 := hb0.trans (ka.mono hq7);obtain ⟨p7, h7⟩ := AB u0.heap.size;have hp7 : wr.heap.size ≤ p7 := by rw [h7]; exact hq7
    rw [← h7] at N7 ⊢;have l7 := N7.lt;clear hal ka h7 hq7;refine hKz _ _ ⟨hb1, ?_⟩;clear hKz Kz hi;refine w1 6 fun Kz hKz => ?_
    go_simp
    go_at_call 39
    refine (E4 I a c L d v1 (O.later hb1).view.2 (by omega) (O.later hb1).capn).mono ?_;rintro e v2 ⟨a2, c2, o2, d2, rfl, O2, Q2, hap_, k2⟩;clear hap_;rw [hM.out] at O2 ⊢;rw [hOO.out] at Q2 ⊢;have szc := hb1.size;have hb2 : Bw wr v2 := hb1.trans (k2.mono szc);have N7 := N7.below k2 N7.lt;have ap1 : ∀ g, (Value.slice a2 M.length c2).ownBlock = some g → g ≠ p7 := fun g e => by have := (O2.lt g e).1; have := l7; omega
    have ap2 : ∀ g, (Value.slice o2 OO.length d2).ownBlock = some g → g ≠ p7 := fun g e => by have := (Q2.lt g e).1; have := l7; omega
    have O2 := O2.base (base' := wr.heap.size) szc;have Q2 := Q2.base (base' := wr.heap.size) szc;clear k2 szc;refine hKz _ _ ⟨hb2, ?_⟩;clear hKz Kz;refine tw 7 29 (.tuple #[.agg #[ji I, .slice a2 M.length c2], .slice o2 OO.length d2]) ?_;refine tw 8 37 (.agg #[ji I, .slice a2 M.length c2]) ?_;refine tw 9 38 (.slice o2 OO.length d2) ?_
   rotate_left;all_goals
    refine w1 11 fun Kz hKz => ?_
    obtain ⟨⟨r0, r1⟩, rf⟩ := id N7;have g0 := rf 0;have g1 := rf 1;clear rf;go_simp
    clear r0 r1 g0 g1;obtain ⟨v9, hv9⟩ := AB ((v2.setCell (ja p7 0) (ji I)).setCell (ja p7 1) (.slice a2 M.length c2));have kp : ∀ g, g ≠ p7 → v9.heap[g]? = v2.heap[g]? := fun g hg => by rw [hv9]; exact N7.put1 I _ g hg
    have N9 : AP v9 p7 I (.slice a2 M.length c2) := by rw [hv9]; exact N7.put I _
    have O2 := O2.keep (fun g e => kp g (ap1 g e));have Q2 := Q2.keep (fun g e => kp g (ap2 g e));have hb9 : Bw wr v9 := by rw [hv9]; exact (hb2.setCell (p := (ja p7 0)) (by show _ ≤ p7; omega) _).setCell (p := (ja p7 1)) (by show _ ≤ p7; omega) _
    rw [← hv9];clear hv9 kp N7 ap1 ap2;refine hKz _ _ ⟨hb9, ?_⟩;clear hKz Kz;refine tw 12 8 (.slice o2 OO.length d2) ?_;refine AM ?_;have A := A.below hb9 A.lt;have lP := P.lt;have P := P.below hb9 P.lt;have F := F.later hb9;have B9 := AA B hb9;have lo2 := O2.lt;have lq2 := Q2.lt;have sB := B.size;have s9 := hb9.size;clear O hb9;obtain ⟨⟨r0, r1⟩, rf⟩ := id N9;obtain ⟨⟨q0, q1⟩, qf⟩ := id P;have g0 := qf 0;have g1 := qf 1;clear qf rf;go_upto_region 10 with fail
    clear r0 r1 q0 q1 g0 g1;obtain ⟨w3, hw3⟩ := AB ((v9.setCell (ja p 0) (ji I)).setCell (ja p 1) (.slice a2 M.length c2));have kp : ∀ g, g ≠ p → w3.heap[g]? = v9.heap[g]? := fun g hg => by rw [hw3]; exact P.put1 I _ g hg
    have P9 : AP w3 p I (.slice a2 M.length c2) := by rw [hw3]; exact P.put I _
    have O9 := (O2.base (base' := w.heap.size) (by omega)).keep (fun g e => kp g (by have := lo2 g e; omega));have Q9 := Q2.keep (fun g e => kp g (by have := lq2 g e; omega));have F9 := F.keep (fun g e => kp g (hnv g e));have A9 := A.keep (kp w.heap.size (by omega));have B9 : Bw w w3 := by rw [hw3]; exact (B9.setCell (p := (ja p 0)) (by show _ ≤ p; omega) _).setCell (p := (ja p 1)) (by show _ ≤ p; omega) _
    have hne9 : ∀ g, (Value.slice a2 M.length c2).ownBlock = some g → g ≠ p := fun g e => by have := lo2 g e; omega
    rw [← hw3];clear hw3 kp O2 Q2 F A P N9 lo2 lq2 hne;have lp9 := P9.lt;have sz9 := B9.size;have l60 : W.length + OO.length ≤ 3000000 := by omega
    go_wp2_with (first | (at_builtin; refine DX Bt Di rfl _ _ 32 rfl (w.heap.size + 1) 77 i0 (.agg #[ji 0, ji 0, ji 0, ji 0, ji 0, ji 0, ji 0, .bool false]) 64 underlying32 hi hz0 hz1 hz2 rfl (by decide) (by decide) _ W rfl F9 o2 d2 OO rfl Q9.capn Q9.view.2 l60 (by omega) ?_))
    intro v4 w4 F4 g4 hob;have hW2 : Hid (Cu I N (x.ln.take (k + 1)) = W ++ OO) := hso;obtain ⟨T, hT⟩ := AB (W ++ OO);rw [← hT] at F4 hW2;clear hT hso;have hnv4 : ∀ g, v4.ownBlock = some g → g ≠ p := fun g e => by rcases hob with h | h <;> rw [h] at e; exact hnv g e; cases e; omega
    have P9 := P9.keep (g4.block _ lp9 (fun e => hnv p e.symm rfl));have O9 := O9.keep (fun g e => g4.block g (O9.lt g e).2 (fun e2 => F9.apart O9 (by decide) e2.symm e));have A9 := A9.keep (g4.block _ A9.lt (fun e => by have := (F9.lt _ e.symm).1; omega));have B9 : Bw w w4 := B9.grown g4 sz9 (fun g e => by have := (F9.lt g e).1; omega);clear F9 g4 hob Q9 hnv;go_wp2
    go_roundw
    case rel => exact ⟨k + 1, a2, c2, M, T, by omega, by go_num, hst, hW2, P9, O9, hne9, F4, hnv4, A9, B9⟩
    case measure => simp [intOf]; omega
  obtain rfl : k = x.ln.length := by omega
  rw [List.take_length] at hS;have hQ3 : Hid (Q ↔ Bv W = x.sd) := by unfold Hid; rw [hQ2.out, hS.out]
  clear hQ2 hS hL O P hne hnv;obtain ⟨aW, cW, rfl⟩ := F.open_;have VS := J.v.s;have hBs := VS.lt Bt (by omega);have hcW := F.capM;have d0 : decide ((x.ln.length : Int) < (x.ln.length : Int)) = false := decide_eq_false (by omega);obtain ⟨a0, a1, a2, a3, a4, a5, a6, a7, a8, a9⟩ := id A;by_cases h40 : W.length ≤ 40
  focus
   have hG0 : Bv W = W := by unfold Bv; rw [show W.length - 40 = 0 by omega, List.drop_zero]
   have hQG : Hid (Q ↔ W = x.sd) := by unfold Hid; rw [hQ3.out, hG0]
   have dg : decide ((W.length : Int) > 40) = false := decide_eq_false (by omega);have dg' : decide ((40 : Int) < (W.length : Int)) = false := decide_eq_false (by omega);have dg'' : decide (40 < W.length) = false := decide_eq_false (by omega);clear hG0 hQ3;have VG := F.view.2;have hBg := VG.lt Bt (by omega);go_upto_region 14 with fail
   clear d0 a0 a1 a2 a3 a4 a5 a6 a7 a8 a9 dg dg' dg'' F hWl;obtain ⟨G, rfl⟩ : ∃ G, G = W := ⟨W, rfl⟩;obtain ⟨cG, rfl⟩ : ∃ c_, c_ = cW := ⟨cW, rfl⟩
  rotate_left;focus
   obtain ⟨n, hn⟩ : ∃ n, W.length = n + 40 := ⟨W.length - 40, by omega⟩;have hG0 : Bv W = W.drop n := by unfold Bv; rw [show W.length - 40 = n by omega]
   have hGl : (W.drop n).length = 40 := by rw [List.length_drop]; omega
   have hQG : Hid (Q ↔ W.drop n = x.sd) := by unfold Hid; rw [hQ3.out, hG0]
   have hw_ : IntKind.i64.wrap ((W.length : Int) - 40) = (n : Int) := by rw [IntKind.wrap_i64]; omega
   have dg : decide ((W.length : Int) > 40) = true := decide_eq_true (by omega);have dg' : decide ((40 : Int) < (W.length : Int)) = true := decide_eq_true (by omega);have dg'' : decide (40 < W.length) = true := decide_eq_true (by omega);obtain ⟨g, hg, _, _⟩ := F.row (by omega);subst hg;have VG := F.view.2.dropO (k := n) (by omega);have hn2 : W.length - n = 40 := by omega
   have hq2 : n ≤ W.length := by omega
   have hlt2 : n < cW := by omega
   clear hG0 hQ3;replace hGl : Hid _ := hGl;replace hn : Hid _ := hn;go_upto_region 14 with fail
   clear hn2 hw_ hq2 hlt2 dg dg' dg'' F hWl d0 a0 a1 a2 a3 a4 a5 a6 a7 a8 a9;obtain ⟨G, hG_⟩ := AB (W.drop n);rw [← hG_] at VG hQG hGl;have hGz : (40 : Nat) = G.length := hGl.out.symm;clear hG_ hn;obtain ⟨cG, hcG⟩ := AB (cW - n);obtain ⟨aG, haG⟩ := AB (some (⟨g, n * 8, none⟩ : Addr));rw [← haG] at VG;have hBg := VG.lt Bt (by omega);rw [show (Value.slice (some ⟨g, n * 8, none⟩) 40 (cW - n)) = Value.slice aG G.length cG from by rw [haG, hcG, hGl.out]];have hG41 : G.length ≤ 40 := by omega
   clear haG hcG hGl hGz
  rotate_left;all_goals
   go_loopw [9] (fun i wq => ∃ k : Nat, k ≤ G.length ∧ k ≤ x.sd.length ∧ i = .int .i64 (k : Int) ∧ Hid (∀ j, j < k → G.getD j Ou.nil = x.sd.getD j Ou.nil) ∧ Below wr.heap.size wr wq) (fun i _ => G.length - (intOf i).toNat)
   case atStart => exact ⟨0, Nat.zero_le _, Nat.zero_le _, rfl, fun j hj => absurd hj (by omega), Below.refl _ _⟩
   case round =>
    obtain ⟨k, hk, hk', rfl, hF, hb9⟩ := hrel;have A := A.below hb9 A.lt;have B := AA B hb9;obtain ⟨a0, a1, a2, a3, a4, a5, a6, a7, a8, a9⟩ := id A;by_cases hlt : k < G.length
    ·
     have d1 : decide ((k : Int) < (G.length : Int)) = true := decide_eq_true (by omega);by_cases hlt' : k < x.sd.length
     ·
      have d2 : decide ((k : Int) < (x.sd.length : Int)) = true := decide_eq_true (by omega);obtain ⟨bG, oG, rfl, _⟩ := VG (by omega);obtain ⟨b', off', hat, _⟩ := VS (by omega);obtain ⟨h, hh⟩ : ∃ h, G.getD k Ou.nil = h := ⟨_, rfl⟩;obtain ⟨h', hh'⟩ : ∃ h, x.sd.getD k Ou.nil = h := ⟨_, rfl⟩;have hc : ∀ Y, Bw wr Y → C7 Y bG (oG + k * 8) h := fun Y hY => by rw [← hh]; exact FN ((VG.below (AA hb9 hY) hBg).at_ Bt Ou.nil hlt)
      have hc' : ∀ Y, Bw wr Y → C7 Y b' (off' + k * 8) h' := fun Y hY => by have h0 := VS.below (AA hb9 hY) hBs; rw [hat] at h0; rw [← hh']; exact FN (h0.at_ Bt Ou.nil hlt')
      replace hh : Hid _ := hh;replace hh' : Hid _ := hh';replace hat : Hid _ := hat;by_cases he : h = h'
      ·
       have heq : ∀ w, (binOp .neq 77 (.agg #[ji h.k, ji h.pt, ji h.r, ji h.c, ji h.b, ji h.p, ji h.h, .bool h.on]) (.agg #[ji h'.k, ji h'.pt, ji h'.r, ji h'.c, ji h'.b, ji h'.p, ji h'.h, .bool h'.on])).run prog w = .ok (.bool false) w := fun w => by subst he; exact HM h w
       replace he : Hid _ := he;go_upto_region 16 with fail
       clear a0 a1 a2 a3 a4 a5 a6 a7 a8 a9;refine AR (fun Y => Bw wr Y) fun u0 hb0 => ?_
       refine tw 0 64 (.slice (some (ja bG oG)) G.length cG) ?_;refine tw 1 65 (ji (k : Int)) ?_;refine tw 2 66 (.pointer (some ⟨bG, oG + k * 8, none⟩)) ?_ (hy := by intro Y hSw; go_simp; try omega);refine tw 3 67 (.agg #[ji h.k, ji h.pt, ji h.r, ji h.c, ji h.b, ji h.p, ji h.h, .bool h.on]) ?_ (hy := by intro Y hSw; have X := (hc Y hSw).all; go_simp);refine tw 4 68 (.pointer (some (ja w.heap.size 9))) ?_;refine tw 5 69 (.slice (some ⟨b', off', none⟩) x.sd.length x.cS) ?_ (hy := by intro Y hSw; have X := (A.below hSw A.lt).all; rw [hat.out] at X; go_simp);refine tw 6 70 (ji (k : Int)) ?_;refine tw 7 71 (.pointer (some ⟨b', off' + k * 8, none⟩)) ?_ (hy := by intro Y hSw; go_simp; try omega);refine tw 8 72 (.agg #[ji h'.k, ji h'.pt, ji h'.r, ji h'.c, ji h'.b, ji h'.p, ji h'.h, .bool h'.on]) ?_ (hy := by intro Y hSw; have X := (hc' Y hSw).all; go_simp);refine tw 9 73 (.bool false) ?_ (hy := by intro w hSw; have hq := heq w; go_simp);refine AM ?_;go_wp2
       go_roundw
       case rel =>
        refine ⟨k + 1, by omega, by omega, by go_num, fun j hj => ?_, AA hb9 hb0⟩;by_cases ej : j = k
        ·
         rw [ej, hh.out, hh'.out]; exact he.out
        ·
         exact hF.out j (by omega)
       case measure => simp [intOf]; omega
      ·
       have heq : ∀ w, (binOp .neq 77 (.agg #[ji h.k, ji h.pt, ji h.r, ji h.c, ji h.b, ji h.p, ji h.h, .bool h.on]) (.agg #[ji h'.k, ji h'.pt, ji h'.r, ji h'.c, ji h'.b, ji h'.p, ji h'.h, .bool h'.on])).run prog w = .ok (.bool true) w := fun w => HN he w
       replace he : Hid (¬ h = h') := he;go_upto_region 16 with fail
       clear a0 a1 a2 a3 a4 a5 a6 a7 a8 a9;refine AR (fun Y => Bw wr Y) fun u0 hb0 => ?_
       refine tw 0 64 (.slice (some (ja bG oG)) G.length cG) ?_;refine tw 1 65 (ji (k : Int)) ?_;refine tw 2 66 (.pointer (some ⟨bG, oG + k * 8, none⟩)) ?_ (hy := by intro Y hSw; go_simp; try omega);refine tw 3 67 (.agg #[ji h.k, ji h.pt, ji h.r, ji h.c, ji h.b, ji h.p, ji h.h, .bool h.on]) ?_ (hy := by intro Y hSw; have X := (hc Y hSw).all; go_simp);refine tw 4 68 (.pointer (some (ja w.heap.size 9))) ?_;refine tw 5 69 (.slice (some ⟨b', off', none⟩) x.sd.length x.cS) ?_ (hy := by intro Y hSw; have X := (A.below hSw A.lt).all; rw [hat.out] at X; go_simp);refine tw 6 70 (ji (k : Int)) ?_;refine tw 7 71 (.pointer (some ⟨b', off' + k * 8, none⟩)) ?_ (hy := by intro Y hSw; go_simp; try omega);refine tw 8 72 (.agg #[ji h'.k, ji h'.pt, ji h'.r, ji h'.c, ji h'.b, ji h'.p, ji h'.h, .bool h'.on]) ?_ (hy := by intro Y hSw; have X := (hc' Y hSw).all; go_simp);refine tw 9 73 (.bool true) ?_ (hy := by intro w hSw; have hq := heq w; go_simp);refine AM ?_;have B := AA B hb0;go_wp2
       go_ret
       exact ⟨YN.no (fun q_ => he.out (hh.out.symm.trans ((congrArg (fun z => z.getD k Ou.nil) (hQG.out.1 q_)).trans hh'.out))), B⟩
     ·
      have d2 : decide ((k : Int) < (x.sd.length : Int)) = false := decide_eq_false (by omega);have d3 : ((G.length : Int) == (x.sd.length : Int)) = false := by rw [beq_eq_false_iff_ne]; omega
      have d3' : (G.length == x.sd.length) = false := by rw [beq_eq_false_iff_ne]; omega
      have hn : Hid (¬ G.length = x.sd.length) := by unfold Hid; omega
      go_wp2
      go_ret
      exact ⟨YN.no (fun q_ => hn.out (congrArg List.length (hQG.out.1 q_))), B⟩
    ·
     obtain rfl : k = G.length := by omega
     have d1 : decide ((G.length : Int) < (G.length : Int)) = false := decide_eq_false (by omega);by_cases hn : G.length = x.sd.length
     ·
      have d3 : ((G.length : Int) == (x.sd.length : Int)) = true := by rw [beq_iff_eq]; omega
      have d3' : (G.length == x.sd.length) = true := by rw [beq_iff_eq]; exact hn
      replace hn : Hid _ := hn;go_wp2
      go_ret
      exact ⟨YN.yes (hQG.out.2 (by apply List.ext_getElem hn.out; intro i h1 h2; have h3 := hF.out i h1; rw [List.getD_eq_getElem?_getD, List.getD_eq_getElem?_getD, List.getElem?_eq_getElem h1, List.getElem?_eq_getElem h2] at h3; exact h3)), B⟩
     ·
      have d3 : ((G.length : Int) == (x.sd.length : Int)) = false := by rw [beq_eq_false_iff_ne]; omega
      have d3' : (G.length == x.sd.length) = false := by rw [beq_eq_false_iff_ne]; exact hn
      replace hn : Hid (¬ G.length = x.sd.length) := hn;go_wp2
      go_ret
      exact ⟨YN.no (fun q_ => hn.out (congrArg List.length (hQG.out.1 q_))), B⟩
theorem IN (x : AG) (w : World) (hJ : Ct w x) :
  Calls prog 33 #[.agg (bc x)] w fun e w' => YN e (AX x.p = true ∧ DG x.p) ∧ Bw w w' := by
 obtain ⟨Q, hQ⟩ : ∃ Q : Prop, Q = (AX x.p = true ∧ DG x.p) := ⟨_, rfl⟩;rw [← hQ];replace hQ : Hid _ := hQ;obtain ⟨y, hy, B⟩ := AI w (Obj.cells (bc x) 34);have A : AZ y w.heap.size x := by rw [hy]; exact AZ.new w _ x
 have J := hJ.later B;go_enter func33, ntmps33
 go_upto_region 1 with fail
 rw [← hy];clear hy;have a0 := A.all;go_wp2_with fail
 go_at_call 17
 clear a0;refine (E7 x y J.v).mono ?_;rintro e u1 ⟨rfl, kq⟩;have A := A.below kq A.lt;have J := J.later kq;have B := AA B kq;clear kq;obtain ⟨ob, hob⟩ : ∃ b, AX x.p = b := ⟨_, rfl⟩;rw [hob];cases ob
 ·
  replace hob : Hid _ := hob;go_wp2
  go_ret
  exact ⟨YN.no (fun q_ => by have h1 := (hQ.out ▸ q_ : AX x.p = true ∧ DG x.p).1; rw [hob.out] at h1; cases h1), B⟩
 have hb := hob;have hQ1 : Hid (Q ↔ DG x.p) := by unfold Hid; rw [hQ.out]; exact ⟨fun h => h.2, fun h => ⟨hb, h⟩⟩
 clear hQ hob;obtain ⟨o0, o1⟩ := E2 hb;obtain ⟨h2, _⟩ := DU hb;obtain ⟨k, hk⟩ : ∃ k : Nat, 1 - x.rg.ow = (k : Int) := ⟨(1 - x.rg.ow).toNat, by omega⟩;have hkl : k < x.two.length := by omega
 have hwr : IntKind.i64.wrap (1 - x.rg.ow) = (k : Int) := by rw [IntKind.wrap_i64]; omega
 obtain ⟨g, off, hat, _⟩ := J.v.t (by omega);obtain ⟨m, hm⟩ : ∃ m, x.two.getD k AF.nil = m := ⟨_, rfl⟩;have M0 : BE u1 g (off + k * 7) m := by have h1 := J.v.t; rw [hat] at h1; have := CJ (h1.at_ Au AF.nil hkl); rw [hm] at this; exact this
 have gl : g < u1.heap.size := J.v.t.lt Au (by omega) _ hat (by omega);have hmo : AT x.p (1 - x.rg.ow) = m.m := by rw [hk, CC]; simp only [Int.toNat_natCast]; rw [hm]
 have hQ2 : Hid (Q ↔ m.m.up = true ∧ 0 < m.m.li ∧ m.m.li = x.rg.pa ∧ m.m.ep = 0) := by unfold Hid; rw [hQ1.out]; unfold DG; show ((AT x.p (1 - x.rg.ow)).up = true ∧ 0 < (AT x.p (1 - x.rg.ow)).li ∧ (AT x.p (1 - x.rg.ow)).li = x.rg.pa ∧ (AT x.p (1 - x.rg.ow)).ep = 0) ↔ _; rw [hmo]
 clear hQ1 hmo hm hk o0 o1 h2 hb J hJ;replace hat : Hid _ := hat;obtain ⟨a0, a1, a2, a3, a4, a5, a6, a7, a8, a9⟩ := id A;rw [hat.out] at a5;replace M0 := M0.all;go_upto_region 4 with fail
 clear M0 hwr hat;obtain ⟨⟨up, li, ep, lg, sd, ac, al⟩, ad, cap⟩ := m;dsimp only at hQ2 ⊢;obtain ⟨y2, hy2, kq⟩ := AI u1 (Obj.cells #[.bool up, ji li, ji ep, .slice ad lg.length cap, ji sd, ji ac, ji al] 52);rw [← hy2];have M2 : Ag y2 u1.heap.size ⟨up, li, ep, lg, sd, ac, al⟩ (.slice ad lg.length cap) := by rw [hy2]; constructor <;> simp [go_sem]
 have A2 := A.below kq A.lt;have B := AA B kq;clear a0 a1 a2 a3 a4 a5 a6 a7 a8 a9 A hy2 kq gl;replace M2 := M2.all;replace A2 := A2.all;cases up
 ·
  go_wp2
  go_ret
  exact ⟨YN.no (fun q_ => by have q2 := (hQ2.out.1 q_).1; first | cases q2 | exact q2.elim | simp at q2), B⟩
 by_cases h1 : 0 < li
 ·
  have d1 : decide (li > 0) = true := by simpa using h1
  have d1' : decide (0 < li) = true := by simpa using h1
  replace h1 : Hid _ := h1;by_cases h2 : li = x.rg.pa
  ·
   have d2 : (li == x.rg.pa) = true := by simpa using h2
   replace h2 : Hid _ := h2;by_cases h3 : ep = 0
   ·
    have d3 : (ep == 0) = true := by simpa using h3
    replace h3 : Hid _ := h3;go_wp2
    go_ret
    exact ⟨YN.yes (hQ2.out.2 (by have q1 := h1.out; have q2 := h2.out; have q3 := h3.out; simp_all)), B⟩
   have d3 : (ep == 0) = false := by simpa using h3
   replace h3 : Hid (¬ ep = 0) := h3;go_wp2
   go_ret
   exact ⟨YN.no (fun q_ => by have q1 := h3.out; have q2 := (hQ2.out.1 q_).2.2.2; omega), B⟩
  have d2 : (li == x.rg.pa) = false := by simpa using h2
  replace h2 : Hid (¬ li = x.rg.pa) := h2;go_wp2
  go_ret
  exact ⟨YN.no (fun q_ => by have q1 := h2.out; have q2 := (hQ2.out.1 q_).2.2.1; omega), B⟩
 have d1 : decide (li > 0) = false := by simpa using h1
 have d1' : decide (0 < li) = false := by simpa using h1
 replace h1 : Hid (¬ 0 < li) := h1;go_wp2
 go_ret
 exact ⟨YN.no (fun q_ => by have q1 := h1.out; have q2 := (hQ2.out.1 q_).2.1; omega), B⟩
def Fc (x : AG) (j : Nat) : Prop := Bh x.p (j : Int) = true → CU x.ln (x.two.getD j AF.nil).m.lg ∧ (x.two.getD j AF.nil).m.sd = (x.ln.length : Int)
theorem I2 {x : AG} {s : Int} (h : Bh x.p s = true) : s = x.rg.ow := by
 unfold Bh at h;rw [Bool.and_eq_true] at h;exact (JF.1 h.2).2.2.2.1
theorem KA {x : AG} (hb : AX x.p = true) : Da x.p ↔ ∀ j, j < 2 → Fc x j := by
 obtain ⟨o0, o1⟩ := E2 hb;constructor
 ·
  intro h j hj hm;have e : (j : Int) = x.rg.ow := I2 hm;have h1 : CU x.ln (AT x.p x.rg.ow).lg ∧ (AT x.p x.rg.ow).sd = (x.ln.length : Int) := h (by show Bh x.p x.rg.ow = true; rw [← e]; exact hm);have e2 : AT x.p x.rg.ow = (x.two.getD j AF.nil).m := by rw [← e, CC]; simp only [Int.toNat_natCast]
  rw [e2] at h1;exact h1
 intro h hm;obtain ⟨k, hk⟩ : ∃ k : Nat, x.rg.ow = (k : Int) := ⟨x.rg.ow.toNat, by omega⟩;have hm : Bh x.p x.rg.ow = true := hm;have h1 := h k (by omega) (by rw [← hk]; exact hm);have e2 : AT x.p x.rg.ow = (x.two.getD k AF.nil).m := by rw [hk, CC]; simp only [Int.toNat_natCast]
 show CU x.ln (AT x.p x.rg.ow).lg ∧ (AT x.p x.rg.ow).sd = (x.ln.length : Int);rw [e2];exact h1
theorem KG (x : AG) (w : World) (hJ : Ct w x) :
  Calls prog 32 #[.agg (bc x)] w fun e w' => YN e (AX x.p = true ∧ Da x.p ∧ DN x.p) ∧ Bw w w' := by
 obtain ⟨Q, hQ⟩ : ∃ Q : Prop, Q = (AX x.p = true ∧ Da x.p ∧ DN x.p) := ⟨_, rfl⟩;rw [← hQ];replace hQ : Hid _ := hQ;obtain ⟨y, hy, B⟩ := AI w (Obj.cells (bc x) 34);have A : AZ y w.heap.size x := by rw [hy]; exact AZ.new w _ x
 have J := hJ.later B;go_enter func32, ntmps32
 go_upto_region 1 with fail
 rw [← hy];clear hy;have a0 := A.all;go_wp2_with fail
 go_at_call 17
 clear a0;refine (E7 x y J.v).mono ?_;rintro e u1 ⟨rfl, kq⟩;have A := A.below kq A.lt;have J := J.later kq;have B := AA B kq;clear kq;obtain ⟨ob, hob⟩ : ∃ b, AX x.p = b := ⟨_, rfl⟩;rw [hob];cases ob
 ·
  replace hob : Hid _ := hob;go_wp2
  go_ret
  exact ⟨YN.no (fun q_ => by have h1 := (hQ.out ▸ q_ : AX x.p = true ∧ Da x.p ∧ DN x.p).1; rw [hob.out] at h1; cases h1), B⟩
 have hb := hob;have hln : x.ln.length ≤ 60 := (DU hb).2.2.2.2.1;obtain ⟨o0, o1⟩ := E2 hb;obtain ⟨h2, hmi, _⟩ := DU hb;have hml : ∀ j, j < 2 → (x.two.getD j AF.nil).m.lg.length ≤ 60 := fun j hj => Hp (hmi j hj)
 have hQ2 : Hid (Q ↔ (∀ j, j < 2 → Fc x j) ∧ DN x.p) := by unfold Hid; rw [hQ.out, ← KA hb]; exact ⟨fun h => h.2, fun h => ⟨hb, h⟩⟩
 replace h2 : Hid _ := h2;replace hb : Hid _ := hb;clear hQ hob hmi;go_upto_region 4 with fail
 go_loopw [3] (fun i wr => ∃ k : Nat, k ≤ 2 ∧ i = .int .i64 (k : Int) ∧ Hid (∀ j, j < k → Fc x j) ∧ Below u1.heap.size u1 wr) (fun i _ => 2 - (intOf i).toNat)
 case atStart => exact ⟨0, Nat.zero_le _, rfl, fun j hj => absurd hj (by omega), Below.refl _ _⟩
 case round =>
  obtain ⟨k, hk, rfl, hF, hb9⟩ := hrel;have A := A.below hb9 A.lt;have J := J.later hb9;have B := AA B hb9;by_cases hlt : k < 2
  ·
   have hkl : k < x.two.length := by have := h2.out; omega
   have hcl := J.c k hkl;have hml := hml k hlt;obtain ⟨g, off, hat, _⟩ := J.v.t (by omega);obtain ⟨m, hm⟩ : ∃ m, x.two.getD k AF.nil = m := ⟨_, rfl⟩;have M0 : BE wr g (off + k * 7) m := by have h1 := J.v.t; rw [hat] at h1; have := CJ (h1.at_ Au AF.nil hkl); rw [hm] at this; exact this
   have gl : g < wr.heap.size := J.v.t.lt Au (by omega) _ hat (by omega);rw [hm] at hcl hml;have hvl := J.v.l k hkl;rw [hm] at hvl;have hok : Hid (Fc x k ↔ (Bh x.p (k : Int) = true → CU x.ln m.m.lg ∧ m.m.sd = (x.ln.length : Int))) := by unfold Hid Fc; rw [hm]
   clear hm;replace hat : Hid _ := hat;obtain ⟨a0, a1, a2, a3, a4, a5, a6, a7, a8, a9⟩ := id A;rw [hat.out] at a5;replace M0 := M0.all;have d0 : decide ((k : Int) < 2) = true := decide_eq_true (by omega);go_upto_region 7 with fail
   clear M0 d0 gl a0 a1 a2 a3 a4 a5 a6 a7 a8 a9;obtain ⟨⟨⟨up, li, ep, lg, sd, ac, al⟩, ad, cap⟩, rfl⟩ : ∃ m_, m_ = m := ⟨m, rfl⟩;dsimp only at hok hcl hml hvl ⊢;obtain ⟨y2, hy2, kq⟩ := AI wr (Obj.cells #[.bool up, ji li, ji ep, .slice ad lg.length cap, ji sd, ji ac, ji al] 52);rw [← hy2];have M2 : Ag y2 wr.heap.size ⟨up, li, ep, lg, sd, ac, al⟩ (.slice ad lg.length cap) := by rw [hy2]; constructor <;> simp [go_sem]
   have A2 := A.below kq A.lt;have J2 := J.later kq;have B2 := AA B kq;have hb9 := AA hb9 kq;have hvl := hvl.below kq (hvl.lt Aa (by omega));clear hy2 kq A J B;have a0 := A2.all;have n0 := M2.all;go_wp2_with fail
   go_at_call 64
   clear n0 a0;refine (En x (k : Int) y2 J2.v).mono ?_;rintro e z1 ⟨rfl, kq⟩;have A2 := A2.below kq A2.lt;have M2 := M2.below kq M2.lt;have J2 := J2.later kq;have B2 := AA B2 kq;have hb9 := AA hb9 kq;have hvl := hvl.below kq (hvl.lt Aa (by omega));clear kq;obtain ⟨mb, hmb⟩ : ∃ b, Bh x.p (k : Int) = b := ⟨_, rfl⟩;rw [hmb];rw [hmb] at hok;replace hmb : Hid _ := hmb;cases mb
   ·
    have a0 := A2.all;have n0 := M2.all;go_wp2
    go_roundw
    case rel =>
     refine ⟨k + 1, by omega, by go_num, fun j hj => ?_, hb9⟩;by_cases ej : j = k
     ·
      rw [ej]; exact hok.out.2 (fun h => by cases h)
     exact hF.out j (by omega)
    case measure => simp [intOf]; omega
   have a0 := A2.all;have n0 := M2.all;go_wp2_with fail
   go_at_call 76
   clear n0 a0;refine (Ib x.aL ad x.cL cap x.ln lg z1 J2.v.i hvl (by omega) (by omega)).mono ?_;rintro e z2 ⟨⟨rc, rfl, hrc⟩, kq⟩;have A2 := A2.below kq A2.lt;have M2 := M2.below kq M2.lt;have J2 := J2.later kq;have B2 := AA B2 kq;have hb9 := AA hb9 kq;have hvl := hvl.below kq (hvl.lt Aa (by omega));clear kq;replace hrc : Hid _ := hrc;cases rc
   ·
    have a0 := A2.all;have n0 := M2.all;go_wp2
    go_ret
    exact ⟨YN.no (fun q_ => by have h1 := (hok.out.1 ((hQ2.out.1 q_).1 k hlt) (by first | rfl | trivial)).1; have h2_ := hrc.out.2 h1; first | cases h2_ | exact h2_.elim), B2⟩
   have hbj : Hid (CU x.ln lg) := by unfold Hid; first | exact hrc.out.1 rfl | exact hrc.out.1 trivial
   clear hrc;by_cases hs : sd = (x.ln.length : Int)
   ·
    have d1 : (sd != (x.ln.length : Int)) = false := by simpa using hs
    replace hs : Hid _ := hs;have a0 := A2.all;have n0 := M2.all;go_wp2
    go_roundw
    case rel =>
     refine ⟨k + 1, by omega, by go_num, fun j hj => ?_, hb9⟩;by_cases ej : j = k
     ·
      rw [ej]; exact hok.out.2 (fun _ => ⟨hbj.out, hs.out⟩)
     exact hF.out j (by omega)
    case measure => simp [intOf]; omega
   have d1 : (sd != (x.ln.length : Int)) = true := by simpa using hs
   replace hs : Hid (¬ sd = (x.ln.length : Int)) := hs;have a0 := A2.all;have n0 := M2.all;go_wp2
   go_ret
   exact ⟨YN.no (fun q_ => hs.out (hok.out.1 ((hQ2.out.1 q_).1 k hlt) (by first | rfl | trivial)).2), B2⟩
  obtain rfl : k = 2 := by omega
  have hQ3 : Hid (Q ↔ DN x.p) := by unfold Hid; rw [hQ2.out]; exact ⟨fun h => h.2, fun h => ⟨hF.out, h⟩⟩
  clear hQ2 hF;obtain ⟨k, hk_⟩ : ∃ k : Nat, 1 - x.rg.ow = (k : Int) := ⟨(1 - x.rg.ow).toNat, by omega⟩;have hkl : k < x.two.length := by have := h2.out; omega
  have hwr : IntKind.i64.wrap (1 - x.rg.ow) = (k : Int) := by rw [IntKind.wrap_i64]; omega
  have hcl := J.c k hkl;have hml := hml k (by omega);obtain ⟨g, off, hat, _⟩ := J.v.t (by omega);obtain ⟨m, hm⟩ : ∃ m, x.two.getD k AF.nil = m := ⟨_, rfl⟩;have M0 : BE wr g (off + k * 7) m := by have h1 := J.v.t; rw [hat] at h1; have := CJ (h1.at_ Au AF.nil hkl); rw [hm] at this; exact this
  have gl : g < wr.heap.size := J.v.t.lt Au (by omega) _ hat (by omega);rw [hm] at hcl hml;have hvl := J.v.l k hkl;rw [hm] at hvl;have hmo : AT x.p (1 - x.rg.ow) = m.m := by rw [hk_, CC]; simp only [Int.toNat_natCast]; rw [hm]
  have hQ4 : Hid (Q ↔ (DG x.p → CU x.ln m.m.lg)) := by unfold Hid; rw [hQ3.out]; unfold DN; show (DG x.p → CU x.ln (AT x.p (1 - x.rg.ow)).lg) ↔ _; rw [hmo]
  clear hm hmo hQ3 hk_;replace hat : Hid _ := hat;have hBl := hvl.lt Aa (by omega);go_upto_region 9 with fail
  refine AR (fun Y => Bw wr Y) fun u0 hb0 => ?_
  refine tw 0 36 (.agg (bc x)) ?_ (hy := by intro Y hSw; have X := (A.below hSw A.lt).all; go_simp);refine w1 1 fun Kz hKz => ?_
  go_simp
  go_at_call 33
  refine (IN x u0 (J.later hb0)).mono ?_;rintro e z1 ⟨⟨rb, rfl, hrb0⟩, kq⟩;have hb1 := AA hb0 kq;have hrb : Hid (rb = true ↔ DG x.p) := by unfold Hid; rw [hrb0]; exact ⟨fun h => h.2, fun h => ⟨hb.out, h⟩⟩
  clear kq hrb0;refine hKz _ _ ⟨hb1, ?_⟩;clear hKz Kz;cases rb
  ·
   refine tw 2 38 (.bool true) ?_;refine tw 3 39 (.bool true) ?_;refine ts 4 40 ?_;refine ts 5 41 ?_;refine ts 6 42 ?_;refine ts 7 43 ?_;refine ts 8 44 ?_;refine ts 9 45 ?_;refine ts 10 46 ?_;refine ts 11 47 ?_;refine ts 12 48 ?_;refine ts 13 49 ?_;refine ts 14 50 ?_;refine ts 15 51 ?_;refine tw 16 52 (.bool true) ?_;refine tw 17 2 (.bool true) ?_;refine AM ?_;have B := AA B hb1;go_wp2
   go_ret
   exact ⟨YN.yes (hQ4.out.2 (fun h => by have h1 := hrb.out.2 h; first | cases h1 | exact h1.elim)), B⟩
  have hpj : Hid (DG x.p) := by unfold Hid; first | exact hrb.out.1 rfl | exact hrb.out.1 trivial
  clear hrb;refine tw 2 38 (.bool false) ?_;refine tw 3 39 (.bool false) ?_;refine tw 4 40 (.pointer (some (ja w.heap.size 8))) ?_;refine tw 5 41 (.slice x.aL x.ln.length x.cL) ?_ (hy := by intro Y hSw; have X := (A.below hSw A.lt).all; go_simp);refine tw 6 42 (.pointer (some (ja w.heap.size 5))) ?_;refine tw 7 43 (.slice (some (ja g off)) x.two.length x.cT) ?_ (hy := by intro Y hSw; have X := (A.below hSw A.lt).all; rw [hat.out] at X; go_simp);refine tw 8 44 (.pointer (some (ja w.heap.size 2))) ?_;refine tw 9 45 (.pointer (some (ja w.heap.size 3))) ?_;refine tw 10 46 (ji x.rg.ow) ?_ (hy := by intro Y hSw; have X := (A.below hSw A.lt).all; go_simp);refine tw 11 47 (ji (k : Int)) ?_ (hy := by intro Y hSw; have hq := hwr; go_simp);refine tw 12 48 (.pointer (some ⟨g, off + k * 7, none⟩)) ?_ (hy := by intro Y hSw; go_simp; try omega);refine tw 13 49 (.pointer (some ⟨g, off + k * 7 + 3, none⟩)) ?_;refine tw 14 50 (.slice m.ad m.m.lg.length m.cap) ?_ (hy := by intro Y hSw; have X := (M0.belowJ hSw gl).all; go_simp);refine w1 15 fun Kz hKz => ?_
  go_simp
  go_at_call 76
  refine (Ib x.aL m.ad x.cL m.cap x.ln m.m.lg z1 (J.later hb1).v.i (hvl.below hb1 hBl) (by omega) (by omega)).mono ?_;rintro e z2 ⟨⟨rc, rfl, hrc⟩, kq⟩;have hb2 := AA hb1 kq;clear kq;replace hrc : Hid _ := hrc;refine hKz _ _ ⟨hb2, ?_⟩;clear hKz Kz;refine tw 16 52 (.bool rc) ?_;refine tw 17 2 (.bool rc) ?_;refine AM ?_;have B := AA B hb2;go_wp2
  go_ret
  exact ⟨YN.is (by rw [hQ4.out]; exact ⟨fun h _ => hrc.out.1 h, fun h => hrc.out.2 (h hpj.out)⟩), B⟩
end Go.Proofs.YthgcbihhdbpbdaaGreat
