import Derived.Test.YtjmnaeeknomiaaaGreatDoorRKWRe4
import Derived.Test.YtjmnaeeknomiaaaGreatDoorRKWRe4t
import Derived.Test.YtjmnaeeknomiaaaGreatDoorRKWRe4l
import Derived.Test.YtjmnaeeknomiaaaGreatDoorRM12
namespace Go.Proofs.YtjmnaeeknomiaaaGreatDoor
open Go.ChangeShapes Go.WideShapes Go.ChangeAt Go.RowKit
open Go.ChangeMaps (open_string shut_string)
set_option linter.unusedVariables false
set_option maxRecDepth 100000
set_option maxHeartbeats 32000000
set_option linter.unusedSimpArgs false
open Go.Proofs.Tryz
theorem HC (id : Int) (cap : Nat) (L : List Pt) (x : Ik) (base g : Nat) (w : World) (hr : AA AK 11 47 base w (.slice (some (ja g 0)) L.length cap) L) (hg : Da id L x = true) :
  Calls prog 93 #[.agg #[ji id, .slice (some (ja g 0)) L.length cap], .agg #[ji x.k, ji x.q, ji x.r, ji x.c, ji x.b, ji x.p, ji x.h, .bool x.up]] w fun e w' => ∃ ad' cap', e = .returned (.agg #[ji id, .slice ad' (Ds id L x).length cap']) ∧ AA AK 11 47 base w' (.slice ad' (Ds id L x).length cap') (Ds id L x) ∧ (∀ g_, (Value.slice ad' (Ds id L x).length cap').ownBlock = some g_ → g_ = g ∨ w.heap.size ≤ g_) ∧ AU g w.heap.size w w' ∧ Below base w w' := by
 have hx0 := hg;unfold Da at hg;simp only [Bool.and_eq_true, decide_eq_true_eq] at hg;obtain ⟨hb, hx, hq⟩ := hg;have hl := (DJ hb).2.1.2;obtain ⟨k, q, r, c, b, p, h, up⟩ := x;dsimp only at hq ⊢;obtain ⟨kq, rfl⟩ : ∃ kq : Nat, q = (kq : Int) := ⟨q.toNat, by omega⟩;have hkl : kq < L.length := by omega
 rcases Kp hx with e | e | e
 ·
  dsimp only at e;subst e;have hu : up = false := by
   unfold CR at hx;simp only [if_true, Bool.and_eq_true, Bool.not_eq_true'] at hx;exact hx.2.2.2
  subst hu;exact Ll id cap L kq r c b p h base g w hr hl hkl
 ·
  dsimp only at e;subst e;unfold CR at hx;simp only [show ¬ ((2 : Int) = 1) by decide, show ¬ ((2 : Int) = 3) by decide, if_false, if_true, decide_eq_true_eq] at hx;obtain ⟨e1, e2, e3, e4, e5, e6, e7⟩ := hx;rw [e1, e2, e3, e4, e5, e6, e7];exact Lj id cap L base g w hr hl hb
 dsimp only at e;subst e;unfold CR at hx;simp only [show ¬ ((3 : Int) = 1) by decide, if_false, if_true, Bool.and_eq_true, decide_eq_true_eq, beq_iff_eq] at hx;obtain ⟨_, ⟨e2, e3, e4, e5⟩, e6⟩ := hx;rw [e2, e3, e4, e5, e6];exact Lk id cap L kq up base g w hr hl hkl
theorem FG (id : Int) (ad : Option Addr) (cap : Nat) (L : List Pt) (x : Ik) (w : World) (hv : AI AK w ad L) (hl : L.length ≤ 1048576) (hn : ad = none → cap = 0) :
  Calls prog 54 #[.agg #[ji id, .slice ad L.length cap], .agg #[ji x.k, ji x.q, ji x.r, ji x.c, ji x.b, ji x.p, ji x.h, .bool x.up]] w fun e w' => ∃ ad' cap' ao co, e = .returned (.tuple #[.agg #[ji id, .slice ad' (CG id L x).length cap'], .slice ao (Cn id L x).length co]) ∧ AA AK 11 47 w.heap.size w' (.slice ad' (CG id L x).length cap') (CG id L x) ∧ AA Aw 8 41 w.heap.size w' (.slice ao (Cn id L x).length co) (Cn id L x) ∧ (∀ g_, (Value.slice ao (Cn id L x).length co).ownBlock = some g_ → (Value.slice ad' (CG id L x).length cap').ownBlock ≠ some g_) ∧ Bw w w' := by
 obtain ⟨i0, hi, hz0, hz1, hz2⟩ := info_parts Gt;have hB := hv.lt AV (by omega);obtain ⟨y, hy⟩ := AC (((w.alloc (Obj.cells #[ji id, .slice ad L.length cap] 51)).alloc (Obj.cells (ic x) 27)).alloc (Obj.cells #[ji 0, .slice none 0 0] 51));have B0 : Bw w y := by rw [hy]; exact (((Below.refl _ _).alloc (Nat.le_refl _) _).alloc (by simp) _).alloc (by simp; omega) _
 have A0 : Ap y w.heap.size id (.slice ad L.length cap) := by rw [hy]; constructor <;> simp [go_sem]
 have X0 : Bh y (w.heap.size + 1) x := by rw [hy]; constructor <;> simp [go_sem]
 have R0 : AR y (w.heap.size + 1 + 1) 0 (.slice none 0 0) := by rw [hy]; refine ⟨?_, fun i => ?_⟩; constructor <;> simp [go_sem]; simp [go_sem]
 have S0 := R0.lt;have hv1 := hv.below B0 hB;have hB1 := hv1.lt AV (by omega);have hvb0 : ∀ a, ad = some a → 0 < L.length → a.block < w.heap.size := hB;clear hv hB;obtain ⟨D, hD⟩ : ∃ D, CG id L x = D := ⟨_, rfl⟩;obtain ⟨OO, hO⟩ : ∃ D, Cn id L x = D := ⟨_, rfl⟩;rw [hD, hO];replace hD : Hid _ := hD;replace hO : Hid _ := hO;go_enter func54, ntmps54
 go_upto_region 1 with fail
 rw [← hy];clear hy;have hvb := hvb0;have BY := B0;obtain ⟨ye, hye, ke⟩ := AM y (Obj.cells #[] 41);have oE : AA Aw 8 41 y.heap.size ye (.slice (some (ja y.heap.size 0)) 0 0) ([] : List Ou) := by rw [hye]; exact AA.empty y
 have ze := ke.size;have A0 := A0.below ke A0.lt;have X0 := X0.below ke X0.lt;have R0 := R0.below ke R0.lt;have hv1 := hv1.below ke (hv1.lt AV (by omega));have BY := AG BY ke;clear ke;go_upto_region 2 with fail
 rw [← hye];clear hye;generalize hE : y.heap.size = E at oE S0 ⊢
 replace hE : Hid _ := hE;have wE : w.heap.size + 1 + 1 < E := S0;have eE0 : E < ye.heap.size := (oE.lt E rfl).2;have cc_ := A0;obtain ⟨a0, a1⟩ := cc_;go_wp2_with fail
 go_at_call 91
 clear a0 a1;refine (Fh id ad cap L ye hv1 hl).mono ?_;rintro e Y1 ⟨rfl, k1⟩;have z1 := k1.size;have A0 := A0.below k1 A0.lt;have X0 := X0.below k1 X0.lt;have R0 := R0.below k1 R0.lt;have hv1 := hv1.below k1 (hv1.lt AV (by omega));have oE := oE.later k1;have BY := AG BY k1;clear k1;cases hb : Az id L with
 | false =>
  have hgo : Da id L x = false := by unfold Da; rw [hb]; rfl
  have hN : Hid (D = L ∧ OO = []) := by
   unfold Hid;rw [← hD.out, ← hO.out];unfold CG Cn;rw [hgo];exact ⟨rfl, rfl⟩
  clear hD hO;have cc_ := A0;obtain ⟨a0, a1⟩ := cc_;go_wp2_with fail
  go_at_call 92
  clear a0 a1;have z9 := BY.size;refine (Fg id ad cap L Y1 hv1 hl hn).mono ?_;rintro e w9 ⟨adN, capN, rfl, oN, k9⟩;have S9 : w.heap.size + 1 + 1 < Y1.heap.size := R0.lt;have jN : ∀ g_, (Value.slice (some (ja E 0)) 0 0).ownBlock = some g_ → (Value.slice adN L.length capN).ownBlock ≠ some g_ := fun g_ e e2 => by have h1 := (oN.lt g_ e2).1; have h2 := (oE.lt g_ e).2; omega
  have oE := oE.later k9;have R0 := R0.below k9 R0.lt;have BY := AG BY k9;have RP := R0.put id (.slice adN L.length capN);obtain ⟨⟨r0, r1⟩, rf⟩ := R0;have BZ := (BY.setCell (p := ⟨w.heap.size + 1 + 1, 0, none⟩) (by show _ ≤ w.heap.size + 1 + 1; omega) (ji id)).setCell (p := ⟨w.heap.size + 1 + 1, 1, none⟩) (by show _ ≤ w.heap.size + 1 + 1; omega) (.slice adN L.length capN);have OZ : AA AK 11 47 w.heap.size ((w9.setCell ⟨w.heap.size + 1 + 1, 0, none⟩ (ji id)).setCell ⟨w.heap.size + 1 + 1, 1, none⟩ (.slice adN L.length capN)) (.slice adN L.length capN) L := (oN.base (by omega)).keep fun g' e => by
   have := (oN.lt g' e).1;rw [AE (by show g' ≠ w.heap.size + 1 + 1; omega), AE (by show g' ≠ w.heap.size + 1 + 1; omega)]
  obtain ⟨⟨p0, p1⟩, _⟩ := RP;have OQ : AA Aw 8 41 w.heap.size ((w9.setCell ⟨w.heap.size + 1 + 1, 0, none⟩ (ji id)).setCell ⟨w.heap.size + 1 + 1, 1, none⟩ (.slice adN L.length capN)) (.slice (some (ja E 0)) 0 0) [] := (oE.base (by omega)).keep fun g' e => by
   have := (oE.lt g' e).1;rw [AE (by show g' ≠ w.heap.size + 1 + 1; omega), AE (by show g' ≠ w.heap.size + 1 + 1; omega)]
  go_wp2
  obtain ⟨rfl, rfl⟩ := hN.out;refine bodyPost_ret (v := .tuple #[.agg #[ji id, .slice adN D.length capN], .slice (some (ja E 0)) 0 0]) (by simp [results, results54, go_sem, *]) rfl ⟨adN, capN, some (ja E 0), 0, rfl, OZ, OQ, jN, BZ⟩
 | true =>
  have hl4 := (DJ hb).2.1;have X1 := X0;replace X1 := X1.all;go_wp2_with fail
  go_at_call 25
  clear X1;refine (GN x Y1).mono ?_;rintro e Y2 ⟨rfl, k2⟩;have z2 := k2.size;have A0 := A0.below k2 A0.lt;have X0 := X0.below k2 X0.lt;have R0 := R0.below k2 R0.lt;have hv1 := hv1.below k2 (hv1.lt AV (by omega));have oE := oE.later k2;have BY := AG BY k2;clear k2;cases hx : CR x with
  | false =>
   have hgo : Da id L x = false := by unfold Da; rw [hb, hx]; rfl
   have hN : Hid (D = L ∧ OO = []) := by
    unfold Hid;rw [← hD.out, ← hO.out];unfold CG Cn;rw [hgo];exact ⟨rfl, rfl⟩
   clear hD hO;have cc_ := A0;obtain ⟨a0, a1⟩ := cc_;go_wp2_with fail
   go_at_call 92
   clear a0 a1;have z9 := BY.size;refine (Fg id ad cap L Y2 hv1 hl hn).mono ?_;rintro e w9 ⟨adN, capN, rfl, oN, k9⟩;have S9 : w.heap.size + 1 + 1 < Y2.heap.size := R0.lt;have jN : ∀ g_, (Value.slice (some (ja E 0)) 0 0).ownBlock = some g_ → (Value.slice adN L.length capN).ownBlock ≠ some g_ := fun g_ e e2 => by have h1 := (oN.lt g_ e2).1; have h2 := (oE.lt g_ e).2; omega
   have oE := oE.later k9;have R0 := R0.below k9 R0.lt;have BY := AG BY k9;have RP := R0.put id (.slice adN L.length capN);obtain ⟨⟨r0, r1⟩, rf⟩ := R0;have BZ := (BY.setCell (p := ⟨w.heap.size + 1 + 1, 0, none⟩) (by show _ ≤ w.heap.size + 1 + 1; omega) (ji id)).setCell (p := ⟨w.heap.size + 1 + 1, 1, none⟩) (by show _ ≤ w.heap.size + 1 + 1; omega) (.slice adN L.length capN);have OZ : AA AK 11 47 w.heap.size ((w9.setCell ⟨w.heap.size + 1 + 1, 0, none⟩ (ji id)).setCell ⟨w.heap.size + 1 + 1, 1, none⟩ (.slice adN L.length capN)) (.slice adN L.length capN) L := (oN.base (by omega)).keep fun g' e => by
    have := (oN.lt g' e).1;rw [AE (by show g' ≠ w.heap.size + 1 + 1; omega), AE (by show g' ≠ w.heap.size + 1 + 1; omega)]
   obtain ⟨⟨p0, p1⟩, _⟩ := RP;have OQ : AA Aw 8 41 w.heap.size ((w9.setCell ⟨w.heap.size + 1 + 1, 0, none⟩ (ji id)).setCell ⟨w.heap.size + 1 + 1, 1, none⟩ (.slice adN L.length capN)) (.slice (some (ja E 0)) 0 0) [] := (oE.base (by omega)).keep fun g' e => by
    have := (oE.lt g' e).1;rw [AE (by show g' ≠ w.heap.size + 1 + 1; omega), AE (by show g' ≠ w.heap.size + 1 + 1; omega)]
   go_wp2
   obtain ⟨rfl, rfl⟩ := hN.out;refine bodyPost_ret (v := .tuple #[.agg #[ji id, .slice adN D.length capN], .slice (some (ja E 0)) 0 0]) (by simp [results, results54, go_sem, *]) rfl ⟨adN, capN, some (ja E 0), 0, rfl, OZ, OQ, jN, BZ⟩
  | true =>
   have X1 := X0;replace X1 := X1.all;have cc_ := A0;obtain ⟨a0, a1⟩ := cc_;have hq0 := (Ko hx).1;by_cases hq : x.q < (L.length : Int)
   rotate_left
   ·
    have hgo : Da id L x = false := by unfold Da; rw [hb, hx, decide_eq_false (by omega)]; rfl
    have dq : decide ((L.length : Int) ≤ x.q) = true := decide_eq_true (by omega);replace hq : Hid _ := hq;go_upto_region 3 with fail
    clear X1 a0 a1;have hN : Hid (D = L ∧ OO = []) := by
     unfold Hid;rw [← hD.out, ← hO.out];unfold CG Cn;rw [hgo];exact ⟨rfl, rfl⟩
    clear hD hO;have cc_ := A0;obtain ⟨a0, a1⟩ := cc_;go_wp2_with fail
    go_at_call 92
    clear a0 a1;have z9 := BY.size;refine (Fg id ad cap L Y2 hv1 hl hn).mono ?_;rintro e w9 ⟨adN, capN, rfl, oN, k9⟩;have S9 : w.heap.size + 1 + 1 < Y2.heap.size := R0.lt;have jN : ∀ g_, (Value.slice (some (ja E 0)) 0 0).ownBlock = some g_ → (Value.slice adN L.length capN).ownBlock ≠ some g_ := fun g_ e e2 => by have h1 := (oN.lt g_ e2).1; have h2 := (oE.lt g_ e).2; omega
    have oE := oE.later k9;have R0 := R0.below k9 R0.lt;have BY := AG BY k9;have RP := R0.put id (.slice adN L.length capN);obtain ⟨⟨r0, r1⟩, rf⟩ := R0;have BZ := (BY.setCell (p := ⟨w.heap.size + 1 + 1, 0, none⟩) (by show _ ≤ w.heap.size + 1 + 1; omega) (ji id)).setCell (p := ⟨w.heap.size + 1 + 1, 1, none⟩) (by show _ ≤ w.heap.size + 1 + 1; omega) (.slice adN L.length capN);have OZ : AA AK 11 47 w.heap.size ((w9.setCell ⟨w.heap.size + 1 + 1, 0, none⟩ (ji id)).setCell ⟨w.heap.size + 1 + 1, 1, none⟩ (.slice adN L.length capN)) (.slice adN L.length capN) L := (oN.base (by omega)).keep fun g' e => by
     have := (oN.lt g' e).1;rw [AE (by show g' ≠ w.heap.size + 1 + 1; omega), AE (by show g' ≠ w.heap.size + 1 + 1; omega)]
    obtain ⟨⟨p0, p1⟩, _⟩ := RP;have OQ : AA Aw 8 41 w.heap.size ((w9.setCell ⟨w.heap.size + 1 + 1, 0, none⟩ (ji id)).setCell ⟨w.heap.size + 1 + 1, 1, none⟩ (.slice adN L.length capN)) (.slice (some (ja E 0)) 0 0) [] := (oE.base (by omega)).keep fun g' e => by
     have := (oE.lt g' e).1;rw [AE (by show g' ≠ w.heap.size + 1 + 1; omega), AE (by show g' ≠ w.heap.size + 1 + 1; omega)]
    go_wp2
    obtain ⟨rfl, rfl⟩ := hN.out;refine bodyPost_ret (v := .tuple #[.agg #[ji id, .slice adN D.length capN], .slice (some (ja E 0)) 0 0]) (by simp [results, results54, go_sem, *]) rfl ⟨adN, capN, some (ja E 0), 0, rfl, OZ, OQ, jN, BZ⟩
   have hgo : Da id L x = true := by unfold Da; rw [hb, hx, decide_eq_true (by omega)]; rfl
   have dq : decide ((L.length : Int) ≤ x.q) = false := decide_eq_false (by omega);replace hq : Hid _ := hq;obtain ⟨T, hT⟩ : ∃ T, Ds id L x = T := ⟨_, rfl⟩;have hTl : T.length = L.length := by rw [← hT]; exact HR id L x
   have hD2 : Hid (D = T) := by unfold Hid; rw [← hD.out, ← hT]; unfold CG; rw [hgo]; rfl
   have hO2 : Hid (OO = DI L T L.length ++ (if x.k = 2 then Cm id T T.length else [])) := by unfold Hid; rw [← hO.out, hTl, ← hT]; unfold Cn; rw [hgo]; rfl
   have hT4 : 1 ≤ T.length ∧ T.length ≤ 4 := by omega
   replace hTl : Hid _ := hTl;replace hT : Hid _ := hT;clear hD hO hb hx;go_upto_region 4 with fail
   clear X1 a0 a1;refine I1 (fun l l' W' => ∃ (P : Nat) (aT : Option Addr) (cT : Nat) (us : List Value), us.length = 4 ∧ l' = l.take 7 ++ (.pointer (some (ja P 0)) :: (l.drop 8).take 22) ++ us ++ l.drop 34 ∧ AR W' P id (.slice aT T.length cT) ∧ AA AK 11 47 Y2.heap.size W' (.slice aT T.length cT) T ∧ (∀ g_, (Value.slice aT T.length cT).ownBlock = some g_ → g_ ≠ P) ∧ Y2.heap.size ≤ P ∧ Bw Y2 W') ?_ ?_;rotate_left
   ·
    intro K2 hT3;refine An (fun Y => Bw Y2 Y) fun u0 hb0 => ?_
    refine tw 0 30 (.agg #[ji id, .slice ad L.length cap]) ?_ (hy := by intro Y hSw; obtain ⟨X0_, X1_⟩ := A0.below hSw A0.lt; go_simp);refine tw 2 32 (.agg (ic x)) ?_ (hy := by intro Y hSw; obtain ⟨Z0, Z1, Z2, Z3, Z4, Z5, Z6, Z7⟩ := X0.below hSw X0.lt; go_simp);refine wpAnyH_all (rs := [1, 4]) (by kernel_rfl) (by simp) ?_;intro i hi; rcases (by simpa using hi : i = 1 ∨ i = 4) with rfl | rfl
    ·
     refine wpOp_step rfl (fun K hK => ?_);rw [if_pos (by kernel_rfl)];go_simp
     go_at_call 92
     refine (Fg id ad cap L u0 (hv1.below hb0 (hv1.lt AV (by omega))) (by omega) hn).mono ?_;rintro e u1 ⟨aN, cN, rfl, oN, kq⟩;obtain ⟨gN, rfl, gN1, gN2⟩ := oN.row (by omega);have bN : Y2.heap.size ≤ u0.heap.size := hb0.size;have bU := kq.size;have hb1 := AG hb0 kq;clear kq;refine hK _ _ ⟨hb1, ?_⟩;clear hK K hi;refine wpAnyH_all (rs := [3, 4]) (by kernel_rfl) (by simp) ?_;intro i hi; rcases (by simpa using hi : i = 3 ∨ i = 4) with rfl | rfl
     ·
      refine wpOp_step rfl (fun K hK => ?_);rw [if_pos (by kernel_rfl)];go_simp
      go_at_call 93
      refine (HC id cN L x _ gN u1 oN hgo).mono ?_;rintro e u2 ⟨aT, cT, rfl, oT, jT, kBar, kB⟩;rw [hT.out] at oT jT ⊢;have hb2 : Bw Y2 u2 := hb1.trans (kB.mono bN);refine hK _ _ ⟨hb2, ?_⟩;clear hK K hi;refine wpAnyH_all (rs := [4]) (by kernel_rfl) (by simp) ?_;intro i hi; obtain rfl : i = 4 := by simpa using hi
      refine wpOp_step rfl (fun K hK => ?_);rw [if_pos (by kernel_rfl)];go_simp
      obtain ⟨u3, hy, kq⟩ := AM u2 (Obj.cells #[ji 0, .slice none 0 0] 51);have joT : ∀ g_, (Value.slice aT T.length cT).ownBlock = some g_ → g_ ≠ u2.heap.size := fun g_ e => by have h1 := (oT.lt g_ e).2; omega
      have oT := oT.later kq;have FP : AR u3 u2.heap.size 0 (.slice none 0 0) := by rw [hy]; exact AR.new u2 _ _ _
      have pa : Y2.heap.size ≤ u2.heap.size := hb2.size;have hb3 := AG hb2 kq;rw [← hy];clear hy kq;refine hK _ _ ⟨hb3, ?_⟩;clear hK K hi;refine wpAnyH_all (rs := [5]) (by kernel_rfl) (by simp) ?_;intro i hi; obtain rfl : i = 5 := by simpa using hi
      refine wpOp_step rfl (fun K hK => ?_);rw [if_pos (by kernel_rfl)];have FQ := FP;obtain ⟨⟨t0, t1⟩, tf⟩ := FP;go_simp
      clear t0 t1 tf;obtain ⟨uf, huf⟩ := AC ((u3.setCell (ja u2.heap.size 0) (ji id)).setCell (ja u2.heap.size 1) (.slice aT T.length cT));have FE : AR uf (u2.heap.size) id (.slice aT T.length cT) := by rw [huf]; exact FQ.put _ _
      have hbf : Bw Y2 uf := by rw [huf]; exact (hb3.setCell (p := (ja u2.heap.size 0)) pa _).setCell (p := (ja u2.heap.size 1)) pa _
      have oT := oT.keep (w' := uf) (fun g_ e => by rw [huf, AE (by show g_ ≠ u2.heap.size; exact joT g_ e), AE (by show g_ ≠ u2.heap.size; exact joT g_ e)]);rw [← huf];clear huf FQ;refine hK _ _ ⟨hbf, ?_⟩;clear hK K hi;refine Ag ?_;exact hT3.out _ _ ⟨u2.heap.size, aT, cT, [(.agg #[ji id, .slice ad L.length cap] : Value), .agg #[ji id, .slice (some (ja gN 0)) L.length cN], (.agg (ic x)), .agg #[ji id, .slice aT T.length cT]], rfl, by kernel_rfl, FE, oT.base bN, joT, pa, hbf⟩
     refine wpOp_step rfl (fun K hK => ?_);rw [if_pos (by kernel_rfl)];go_simp
     obtain ⟨u2, hy, kq⟩ := AM u1 (Obj.cells #[ji 0, .slice none 0 0] 51);have joN : ∀ g_, (Value.slice (some (ja gN 0)) L.length cN).ownBlock = some g_ → g_ ≠ u1.heap.size := fun g_ e => by have h1 := (oN.lt g_ e).2; omega
     have oN := oN.later kq;have FP : AR u2 u1.heap.size 0 (.slice none 0 0) := by rw [hy]; exact AR.new u1 _ _ _
     have pa : Y2.heap.size ≤ u1.heap.size := hb1.size;have hb2 := AG hb1 kq;rw [← hy];clear hy kq;refine hK _ _ ⟨hb2, ?_⟩;clear hK K hi;refine wpAnyH_all (rs := [3]) (by kernel_rfl) (by simp) ?_;intro i hi; obtain rfl : i = 3 := by simpa using hi
     refine wpOp_step rfl (fun K hK => ?_);rw [if_pos (by kernel_rfl)];go_simp
     go_at_call 93
     refine (HC id cN L x _ gN u2 oN hgo).mono ?_;rintro e u3 ⟨aT, cT, rfl, oT, jT, kBar, kB⟩;rw [hT.out] at oT jT ⊢;have joT : ∀ g_, (Value.slice aT T.length cT).ownBlock = some g_ → g_ ≠ u1.heap.size := fun g_ e => by
      have h1 := jT g_ e;have h2 := FP.lt;have h3 := joN gN rfl;omega
     have FP := FP.keep (kBar.block _ FP.lt (fun e => joN gN rfl e.symm));have hb3 : Bw Y2 u3 := hb2.trans (kB.mono bN);refine hK _ _ ⟨hb3, ?_⟩;clear hK K hi;refine wpAnyH_all (rs := [5]) (by kernel_rfl) (by simp) ?_;intro i hi; obtain rfl : i = 5 := by simpa using hi
     refine wpOp_step rfl (fun K hK => ?_);rw [if_pos (by kernel_rfl)];have FQ := FP;obtain ⟨⟨t0, t1⟩, tf⟩ := FP;go_simp
     clear t0 t1 tf;obtain ⟨uf, huf⟩ := AC ((u3.setCell (ja u1.heap.size 0) (ji id)).setCell (ja u1.heap.size 1) (.slice aT T.length cT));have FE : AR uf (u1.heap.size) id (.slice aT T.length cT) := by rw [huf]; exact FQ.put _ _
     have hbf : Bw Y2 uf := by rw [huf]; exact (hb3.setCell (p := (ja u1.heap.size 0)) pa _).setCell (p := (ja u1.heap.size 1)) pa _
     have oT := oT.keep (w' := uf) (fun g_ e => by rw [huf, AE (by show g_ ≠ u1.heap.size; exact joT g_ e), AE (by show g_ ≠ u1.heap.size; exact joT g_ e)]);rw [← huf];clear huf FQ;refine hK _ _ ⟨hbf, ?_⟩;clear hK K hi;refine Ag ?_;exact hT3.out _ _ ⟨u1.heap.size, aT, cT, [(.agg #[ji id, .slice ad L.length cap] : Value), .agg #[ji id, .slice (some (ja gN 0)) L.length cN], (.agg (ic x)), .agg #[ji id, .slice aT T.length cT]], rfl, by kernel_rfl, FE, oT.base bN, joT, pa, hbf⟩
    refine wpOp_step rfl (fun K hK => ?_);rw [if_pos (by kernel_rfl)];go_simp
    obtain ⟨u1, hy, kq⟩ := AM u0 (Obj.cells #[ji 0, .slice none 0 0] 51);have FP : AR u1 u0.heap.size 0 (.slice none 0 0) := by rw [hy]; exact AR.new u0 _ _ _
    have pa : Y2.heap.size ≤ u0.heap.size := hb0.size;have hb1 := AG hb0 kq;rw [← hy];clear hy kq;refine hK _ _ ⟨hb1, ?_⟩;clear hK K hi;refine wpAnyH_all (rs := [1]) (by kernel_rfl) (by simp) ?_;intro i hi; obtain rfl : i = 1 := by simpa using hi
    refine wpOp_step rfl (fun K hK => ?_);rw [if_pos (by kernel_rfl)];go_simp
    go_at_call 92
    refine (Fg id ad cap L u1 (hv1.below hb1 (hv1.lt AV (by omega))) (by omega) hn).mono ?_;rintro e u2 ⟨aN, cN, rfl, oN, kq⟩;obtain ⟨gN, rfl, gN1, gN2⟩ := oN.row (by omega);have bN : Y2.heap.size ≤ u1.heap.size := hb1.size;have bU := kq.size;have joN : ∀ g_, (Value.slice (some (ja gN 0)) L.length cN).ownBlock = some g_ → g_ ≠ u0.heap.size := fun g_ e => by have h1 := (oN.lt g_ e).1; have h2 := FP.lt; omega
    have FP := FP.below kq FP.lt;have hb2 := AG hb1 kq;clear kq;refine hK _ _ ⟨hb2, ?_⟩;clear hK K hi;refine wpAnyH_all (rs := [3]) (by kernel_rfl) (by simp) ?_;intro i hi; obtain rfl : i = 3 := by simpa using hi
    refine wpOp_step rfl (fun K hK => ?_);rw [if_pos (by kernel_rfl)];go_simp
    go_at_call 93
    refine (HC id cN L x _ gN u2 oN hgo).mono ?_;rintro e u3 ⟨aT, cT, rfl, oT, jT, kBar, kB⟩;rw [hT.out] at oT jT ⊢;have joT : ∀ g_, (Value.slice aT T.length cT).ownBlock = some g_ → g_ ≠ u0.heap.size := fun g_ e => by
     have h1 := jT g_ e;have h2 := FP.lt;have h3 := joN gN rfl;omega
    have FP := FP.keep (kBar.block _ FP.lt (fun e => joN gN rfl e.symm));have hb3 : Bw Y2 u3 := hb2.trans (kB.mono bN);refine hK _ _ ⟨hb3, ?_⟩;clear hK K hi;refine wpAnyH_all (rs := [5]) (by kernel_rfl) (by simp) ?_;intro i hi; obtain rfl : i = 5 := by simpa using hi
    refine wpOp_step rfl (fun K hK => ?_);rw [if_pos (by kernel_rfl)];have FQ := FP;obtain ⟨⟨t0, t1⟩, tf⟩ := FP;go_simp
    clear t0 t1 tf;obtain ⟨uf, huf⟩ := AC ((u3.setCell (ja u0.heap.size 0) (ji id)).setCell (ja u0.heap.size 1) (.slice aT T.length cT));have FE : AR uf (u0.heap.size) id (.slice aT T.length cT) := by rw [huf]; exact FQ.put _ _
    have hbf : Bw Y2 uf := by rw [huf]; exact (hb3.setCell (p := (ja u0.heap.size 0)) pa _).setCell (p := (ja u0.heap.size 1)) pa _
    have oT := oT.keep (w' := uf) (fun g_ e => by rw [huf, AE (by show g_ ≠ u0.heap.size; exact joT g_ e), AE (by show g_ ≠ u0.heap.size; exact joT g_ e)]);rw [← huf];clear huf FQ;refine hK _ _ ⟨hbf, ?_⟩;clear hK K hi;refine Ag ?_;exact hT3.out _ _ ⟨u0.heap.size, aT, cT, [(.agg #[ji id, .slice ad L.length cap] : Value), .agg #[ji id, .slice (some (ja gN 0)) L.length cN], (.agg (ic x)), .agg #[ji id, .slice aT T.length cT]], rfl, by kernel_rfl, FE, oT.base bN, joT, pa, hbf⟩
   rintro l' Y4 ⟨P, aT, cT, us, hul, rfl, NP, oT, jT, pT, k4⟩;obtain ⟨u30, us, rfl⟩ : ∃ a b, us = a :: b := List.exists_cons_of_length_eq_add_one hul;replace hul := Nat.succ.inj hul;obtain ⟨u31, us, rfl⟩ : ∃ a b, us = a :: b := List.exists_cons_of_length_eq_add_one hul;replace hul := Nat.succ.inj hul;obtain ⟨u32, us, rfl⟩ : ∃ a b, us = a :: b := List.exists_cons_of_length_eq_add_one hul;replace hul := Nat.succ.inj hul;obtain ⟨u33, us, rfl⟩ : ∃ a b, us = a :: b := List.exists_cons_of_length_eq_add_one hul;replace hul := Nat.succ.inj hul;obtain rfl : us = [] := List.eq_nil_of_length_eq_zero hul;clear hul;simp only [List.take, List.drop, List.cons_append, List.nil_append];have z4 := k4.size;have A0 := A0.below k4 A0.lt;have X0 := X0.below k4 X0.lt;have R0 := R0.below k4 R0.lt;have hv1 := hv1.below k4 (hv1.lt AV (by omega));have oE := oE.later k4;have BY := AG BY k4;clear k4;have NP := NP.at_;have vT : AI AK Y4 aT T := oT.view.2;have vtb : ∀ a, aT = some a → 0 < T.length → Y2.heap.size ≤ a.block ∧ a.block < Y4.heap.size := fun a e p => by
    obtain ⟨g_, e1, e2, e3⟩ := oT.row p;rw [e1] at e;cases e
    exact ⟨e2, e3⟩
   have vab : ∀ a, ad = some a → 0 < L.length → a.block < w.heap.size := hvb;have eE := (oE.lt E rfl).2;have pP := NP.lt;have sE : ∀ g_, (Value.slice (some (ja E 0)) ([] : List Ou).length 0).ownBlock = some g_ → g_ = E ∨ Y4.heap.size ≤ g_ := fun g_ e => .inl (by simpa [Value.ownBlock] using e.symm)
   have EY2 : E < Y2.heap.size := by omega
   go_wp2
   go_loopw [6, 8] (fun v i wr => ∃ k : Nat, k ≤ L.length ∧ i = .int .i64 (k : Int) ∧ AA Aw 8 41 E wr v (DI L T k) ∧ (∀ g_, v.ownBlock = some g_ → g_ = E ∨ Y4.heap.size ≤ g_) ∧ AU E Y4.heap.size Y4 wr ∧ Below w.heap.size w wr) (fun _ i _ => L.length - (intOf i).toNat)
   case atStart => exact ⟨0, Nat.zero_le _, rfl, oE, sE, AU.of (Below.refl _ _), BY⟩
   case round =>
    obtain ⟨k, hk, rfl, O, sO, hBar, B5⟩ := hrel;obtain ⟨adk, capk, rfl⟩ := O.open_;have z5 := hBar.size;have A5 := A0.bar hBar A0.lt (by omega);have P5 := NP.bar hBar NP.lt (by omega);have cc_ := A5;obtain ⟨a0, a1⟩ := cc_;by_cases hlt : k < L.length
    ·
     have hltT : k < T.length := by rw [hTl.out]; exact hlt
     have hv5 : AI AK wr ad L := hv1.carry fun a e p => hBar.block _ (by have := vab a e p; omega) (by have := vab a e p; omega)
     have vT5 : AI AK wr aT T := vT.carry fun a e p => hBar.block _ (vtb a e p).2 (by have := (vtb a e p).1; omega)
     obtain ⟨bk, off, rfl, _⟩ := hv5 (by omega);obtain ⟨bt_, ot_, rfl, _⟩ := vT5 (by omega);obtain ⟨h, hh⟩ : ∃ h, T.getD k Pt.nil = h := ⟨_, rfl⟩;obtain ⟨q_, hg⟩ : ∃ g, L.getD k Pt.nil = g := ⟨_, rfl⟩;have hhc : ∀ Y, Bw wr Y → CA Y bt_ (ot_ + k * 11) h := fun Y hY => by rw [← hh]; exact CP ((vT5.below hY (vT5.lt AV (by omega))).at_ AV Pt.nil hltT)
     have hgc : ∀ Y, Bw wr Y → CA Y bk (off + k * 11) q_ := fun Y hY => by rw [← hg]; exact CP ((hv5.below hY (hv5.lt AV (by omega))).at_ AV Pt.nil hlt)
     replace hh : Hid _ := hh;replace hg : Hid _ := hg;have gl := Gh L T k;obtain ⟨G, hG⟩ : ∃ G, DI L T k = G := ⟨_, rfl⟩;rw [hG] at O gl sO ⊢;replace hG : Hid _ := hG;go_upto_region 8 with fail
     clear a0 a1 hv5 vT5;by_cases ho : h.op = q_.op
     ·
      have hN : Hid (DI L T (k + 1) = G) := by unfold Hid; rw [JP hh.out hg.out ho, hG.out]
      replace ho : Hid _ := ho;refine An (fun Y => Bw wr Y) fun u0 hb0 => ?_
      refine tw 0 41 (.pointer (some (ja P 1))) ?_;refine tw 1 42 (.slice (some (ja bt_ ot_)) T.length cT) ?_ (hy := by intro Y hSw; obtain ⟨X0_, X1_⟩ := P5.below hSw P5.lt; go_simp);refine tw 2 43 (ji (k : Int)) ?_;refine tw 3 44 (.pointer (some ⟨bt_, ot_ + k * 11, none⟩)) ?_ (hy := by intro Y hSw; go_simp; try omega);refine tw 4 45 (.pointer (some ⟨bt_, ot_ + k * 11 + 10, none⟩)) ?_;refine tw 5 46 (.bool h.op) ?_ (hy := by intro Y hSw; have X := (hhc Y hSw).all; go_simp);refine tw 6 47 (.pointer (some (ja w.heap.size 1))) ?_;refine tw 7 48 (.slice (some (ja bk off)) L.length cap) ?_ (hy := by intro Y hSw; obtain ⟨X0_, X1_⟩ := A5.below hSw A5.lt; go_simp);refine tw 8 49 (ji (k : Int)) ?_;refine tw 9 50 (.pointer (some ⟨bk, off + k * 11, none⟩)) ?_ (hy := by intro Y hSw; go_simp; try omega);refine tw 10 51 (.pointer (some ⟨bk, off + k * 11 + 10, none⟩)) ?_;refine tw 11 52 (.bool q_.op) ?_ (hy := by intro Y hSw; have X := (hgc Y hSw).all; go_simp);refine tw 12 53 (.bool false) ?_ (hy := by intro Y hSw; go_simp; exact ho.out);refine Ag ?_;have hBar2 : AU E Y4.heap.size Y4 u0 := ⟨Nat.le_trans hBar.size hb0.size, fun q hq hne => (hb0.block q (by omega)).trans (hBar.block q hq hne)⟩;go_wp2
      go_roundw
      case rel => exact ⟨k + 1, by omega, by go_num, by rw [hN.out]; exact O.later hb0, sO, hBar2, AG B5 hb0⟩
      case measure => simp [intOf]; omega
     have hN : Hid (DI L T (k + 1) = G ++ [Dv k h.op]) := by unfold Hid; rw [Jw hh.out hg.out ho, hG.out]
     replace ho : Hid _ := ho;refine An (fun Y => Bw wr Y) fun u0 hb0 => ?_
     refine tw 0 41 (.pointer (some (ja P 1))) ?_;refine tw 1 42 (.slice (some (ja bt_ ot_)) T.length cT) ?_ (hy := by intro Y hSw; obtain ⟨X0_, X1_⟩ := P5.below hSw P5.lt; go_simp);refine tw 2 43 (ji (k : Int)) ?_;refine tw 3 44 (.pointer (some ⟨bt_, ot_ + k * 11, none⟩)) ?_ (hy := by intro Y hSw; go_simp; try omega);refine tw 4 45 (.pointer (some ⟨bt_, ot_ + k * 11 + 10, none⟩)) ?_;refine tw 5 46 (.bool h.op) ?_ (hy := by intro Y hSw; have X := (hhc Y hSw).all; go_simp);refine tw 6 47 (.pointer (some (ja w.heap.size 1))) ?_;refine tw 7 48 (.slice (some (ja bk off)) L.length cap) ?_ (hy := by intro Y hSw; obtain ⟨X0_, X1_⟩ := A5.below hSw A5.lt; go_simp);refine tw 8 49 (ji (k : Int)) ?_;refine tw 9 50 (.pointer (some ⟨bk, off + k * 11, none⟩)) ?_ (hy := by intro Y hSw; go_simp; try omega);refine tw 10 51 (.pointer (some ⟨bk, off + k * 11 + 10, none⟩)) ?_;refine tw 11 52 (.bool q_.op) ?_ (hy := by intro Y hSw; have X := (hgc Y hSw).all; go_simp);refine tw 12 53 (.bool true) ?_ (hy := by intro Y hSw; go_simp; exact ho.out);refine Ag ?_;have hBar2 : AU E Y4.heap.size Y4 u0 := ⟨Nat.le_trans hBar.size hb0.size, fun q hq hne => (hb0.block q (by omega)).trans (hBar.block q hq hne)⟩;have B6 := AG B5 hb0;have z6 := hb0.size;obtain ⟨c0, c1, c2, c3, c4, c5, c6, c7, c8, c9, c10⟩ := hhc u0 hb0;obtain ⟨n0, n1⟩ := P5.below hb0 P5.lt;have V1 := AI.oneO u0 41 (Dv k h.op);have O2 : AA Aw 8 41 E (u0.alloc (Obj.cells #[ji (Dv k h.op).k, ji (Dv k h.op).pt, ji (Dv k h.op).r, ji (Dv k h.op).c, ji (Dv k h.op).b, ji (Dv k h.op).p, ji (Dv k h.op).h, .bool (Dv k h.op).on] 41)) (.slice adk G.length capk) G := (O.later hb0).later (Ax _);unfold Dv at V1 O2;dsimp only at V1 O2;go_wp2_with (first | (at_builtin; refine En DS FA rfl _ _ 61 rfl E 41 i0 (.agg #[ji 0, ji 0, ji 0, ji 0, ji 0, ji 0, ji 0, .bool false]) 64 underlying61 hi hz0 hz1 hz2 rfl (by decide) (by decide) (.slice adk G.length capk) G rfl O2 (some (ja u0.heap.size 0)) 1 [(⟨2, (k : Int), 0, 0, 0, 0, 0, h.op⟩ : Ou)] rfl (fun e => by cases e) V1 ?z0 ?z1 ?_) | go_in)
     case z0 => simp; omega
     case z1 => simp; omega
     intro vZ wZ hownZ hgrowZ hoZ;have gsz := hgrowZ.size;simp only [World.size_alloc] at gsz;have sZ : ∀ g_, vZ.ownBlock = some g_ → g_ = E ∨ Y4.heap.size ≤ g_ := fun g_ e => by
      rcases hoZ with q | q
      ·
       exact sO g_ (by rw [← q]; exact e)
      rw [q] at e;simp at e
      omega
     have BarZ : AU E Y4.heap.size Y4 wZ := ⟨by omega, fun q hq hne => (hgrowZ.block q (by simp; omega) (fun e => by have := sO q e.symm; omega)).trans ((Below.heap_alloc _ _ q (by omega)).trans (hBar2.block q hq hne))⟩;have BZ6 : Bw w wZ := (B6.alloc B6.size _).grown hgrowZ (by simp; have := B6.size; omega) (fun g_ e => by have := sO g_ e; omega);clear hgrowZ V1 O2 c0 c1 c2 c3 c4 c5 c6 c7 c8 c9 c10 n0 n1 hoZ;go_wp2
     go_roundw
     case rel => exact ⟨k + 1, by omega, by go_num, by rw [hN.out]; exact hownZ, sZ, BarZ, BZ6⟩
     case measure => simp [intOf]; omega
    obtain rfl : k = L.length := by omega
    obtain ⟨G, hG⟩ : ∃ G, DI L T L.length = G := ⟨_, rfl⟩;have gl := Gh L T L.length;rw [hG] at O sO gl hO2 ⊢;replace hO2 : Hid _ := hO2;clear hG;have X5 := X0.keep (hBar.block _ X0.lt (by omega));have R5 := R0.keep (hBar.block _ R0.lt (by omega));have cc_ := X5;replace cc_ := cc_.all;have cp_ := P5;obtain ⟨n0, n1⟩ := cp_;by_cases hk2 : x.k = 2
    ·
     have hO3 : Hid (OO = G ++ Cm id T T.length) := by unfold Hid; rw [hO2.out, if_pos hk2]
     replace hk2 : Hid _ := hk2;clear hO2;have gl4 : G.length ≤ 4 := by omega
     go_upto_region 10 with fail
     go_wp2
     clear cc_ n0 n1 a0 a1 A5 P5 X5 R5;go_loopw [6, 9] (fun v i ws => ∃ k : Nat, k ≤ T.length ∧ i = .int .i64 (k : Int) ∧ AA Aw 8 41 E ws v (G ++ Cm id T k) ∧ (∀ g_, v.ownBlock = some g_ → g_ = E ∨ Y4.heap.size ≤ g_) ∧ AU E Y4.heap.size Y4 ws ∧ Below w.heap.size w ws) (fun _ i _ => T.length - (intOf i).toNat)
     case atStart => exact ⟨0, Nat.zero_le _, rfl, by rw [show Cm id T 0 = [] from rfl, List.append_nil]; exact O, sO, hBar, B5⟩
     case round =>
      clear O sO hBar B5;obtain ⟨k, hk, rfl, O, sO, hBar, B5⟩ := hrel;obtain ⟨adk, capk, rfl⟩ := O.open_;have z5 := hBar.size;have P5 := NP.bar hBar NP.lt (by omega);have X5 := X0.keep (hBar.block _ X0.lt (by omega));have R5 := R0.keep (hBar.block _ R0.lt (by omega));have cc_ := X5;replace cc_ := cc_.all;have dk : (x.k == 2) = true := by simpa using hk2.out
      have cp_ := P5;obtain ⟨n0, n1⟩ := cp_;by_cases hlt : k < T.length
      ·
       have vT5 : AI AK wr aT T := vT.carry fun a e p => hBar.block _ (vtb a e p).2 (by have := (vtb a e p).1; omega)
       obtain ⟨bt_, ot_, rfl, _⟩ := vT5 (by omega);obtain ⟨h, hh⟩ : ∃ h, T.getD k Pt.nil = h := ⟨_, rfl⟩;obtain ⟨c0, c1, c2, c3, c4, c5, c6, c7, c8, c9, c10⟩ : CA wr bt_ (ot_ + k * 11) h := by rw [← hh]; exact CP (vT5.at_ AV Pt.nil hlt)
       replace hh : Hid _ := hh;have tl := Hk id T k;obtain ⟨H, hH⟩ : ∃ H, Cm id T k = H := ⟨_, rfl⟩;rw [hH] at O tl sO ⊢;obtain ⟨GH, hGH⟩ : ∃ GH, G ++ H = GH := ⟨_, rfl⟩;have gh8 : GH.length ≤ 8 := by rw [← hGH, List.length_append]; omega
       rw [hGH] at O sO ⊢;have hHN : Hid (G ++ Cm id T k = GH) := by unfold Hid; rw [hH, hGH]
       clear hH hGH;by_cases ho : h.ro = 2
       ·
        have dr : (h.ro == 2) = true := by simpa using ho
        obtain ⟨⟨v1, v2, v3, v4⟩, hov⟩ : ∃ v, Cc id T k = v := ⟨_, rfl⟩;obtain ⟨hq_, hhq⟩ : ∃ v, Fe id T = v := ⟨_, rfl⟩;have hN : Hid (G ++ Cm id T (k + 1) = GH ++ [(⟨1, (k : Int), v1, v2, v3, v4, hq_, false⟩ : Ou)]) := by unfold Hid; rw [Jc hh.out ho, ← List.append_assoc, hHN.out]; unfold G0; rw [hov, hhq]
        replace ho : Hid _ := ho;replace hov : Hid _ := hov;replace hhq : Hid _ := hhq;have hiT := hi;go_upto_region 14 with fail
        clear cc_ c0 c1 c2 c3 c4 c5 c6 c7 c8 c9 c10 n0 n1 vT5;refine An (fun Y => AU E Y4.heap.size Y4 Y) fun u0 ha0 => ?_
        have hb0 : AU E Y4.heap.size Y4 u0 := ⟨Nat.le_trans hBar.size ha0.size, fun q hq hne => (ha0.block q (by omega)).trans (hBar.block q hq hne)⟩;refine tw 0 84 (.slice adk GH.length capk) ?_;refine tw 1 85 (ji (k : Int)) ?_;refine tw 2 86 (.agg #[ji id, .slice (some (ja bt_ ot_)) T.length cT]) ?_ (hy := by intro Y hSw; obtain ⟨X0_, X1_⟩ := NP.bar hSw NP.lt (by omega); go_simp);refine tw 3 87 (ji (k : Int)) ?_;refine tw 5 89 (.agg #[ji id, .slice (some (ja bt_ ot_)) T.length cT]) ?_ (hy := by intro Y hSw; obtain ⟨X0_, X1_⟩ := NP.bar hSw NP.lt (by omega); go_simp);refine wpAnyH_all (rs := [4]) (by kernel_rfl) (by simp) ?_;intro i hi; obtain rfl : i = 4 := by simpa using hi
        refine wpOp_step rfl (fun K hK => ?_);rw [if_pos (by kernel_rfl)];go_simp
        go_at_call 94
        refine (G7 id (some (ja bt_ ot_)) cT T (k : Int) u0 (vT.carry fun a e p => hb0.block _ (vtb a e p).2 (by have := (vtb a e p).1; omega)) (by omega)).mono ?_;rintro e u1 ⟨rfl, kq⟩;have ha1 := AG ha0 kq;have hb1 : AU E Y4.heap.size Y4 u1 := ⟨Nat.le_trans hBar.size ha1.size, fun q hq hne => (ha1.block q (by omega)).trans (hBar.block q hq hne)⟩;clear kq;rw [hov.out];refine hK _ _ ⟨hb1, ?_⟩;clear hK K hi;refine wpAnyH_all (rs := [6]) (by kernel_rfl) (by simp) ?_;intro i hi; obtain rfl : i = 6 := by simpa using hi
        refine wpOp_step rfl (fun K hK => ?_);rw [if_pos (by kernel_rfl)];go_simp
        go_at_call 95
        refine (LW id (some (ja bt_ ot_)) cT T u1 (vT.carry fun a e p => hb1.block _ (vtb a e p).2 (by have := (vtb a e p).1; omega)) (by omega)).mono ?_;rintro e u2 ⟨rfl, kq⟩;have ha2 := AG ha1 kq;have hb2 : AU E Y4.heap.size Y4 u2 := ⟨Nat.le_trans hBar.size ha2.size, fun q hq hne => (ha2.block q (by omega)).trans (hBar.block q hq hne)⟩;clear kq;rw [hhq.out];refine hK _ _ ⟨hb2, ?_⟩;clear hK K hi;refine tw 7 91 (.agg #[ji 1, ji (k : Int), ji v1, ji v2, ji v3, ji v4, ji hq_, .bool false]) ?_;refine wpAnyH_all (rs := [8]) (by kernel_rfl) (by simp) ?_;intro i hi; obtain rfl : i = 8 := by simpa using hi
        refine wpOp_step rfl (fun K_ hK_ => ?_);rw [if_pos (by kernel_rfl)];go_simp
        obtain ⟨u3, hu3, kq⟩ := AM u2 (Obj.cells #[ji 1, ji (k : Int), ji v1, ji v2, ji v3, ji v4, ji hq_, .bool false] 41);have V1 : AI Aw u3 (some (ja u2.heap.size 0)) [(⟨1, (k : Int), v1, v2, v3, v4, hq_, false⟩ : Ou)] := by rw [hu3]; exact AI.oneO u2 41 ⟨1, (k : Int), v1, v2, v3, v4, hq_, false⟩
        have ha3 := AG ha2 kq;have hb3 : AU E Y4.heap.size Y4 u3 := ⟨Nat.le_trans hBar.size ha3.size, fun q hq hne => (ha3.block q (by omega)).trans (hBar.block q hq hne)⟩;clear kq;rw [← hu3];clear hu3;generalize u2.heap.size = Ee at V1 ⊢
        refine hK_ _ _ ⟨hb3, ?_⟩;clear hK_ K_ hi;have O2 : AA Aw 8 41 E u3 (.slice adk GH.length capk) GH := O.later ha3;have z6 := ha3.size;have B6 := AG B5 ha3;refine wpAnyH_all (rs := [9]) (by kernel_rfl) (by simp) ?_;intro i hi; obtain rfl : i = 9 := by simpa using hi
        refine wpOp_step rfl (fun K_ hK_ => ?_);rw [if_pos (by kernel_rfl)];refine CC DS FA 93 _ _ 61 rfl rfl E 41 i0 (.agg #[ji 0, ji 0, ji 0, ji 0, ji 0, ji 0, ji 0, .bool false]) 64 underlying61 hiT hz0 hz1 hz2 rfl (by decide) (by decide) (.slice adk GH.length capk) GH rfl O2 (some (ja Ee 0)) 1 [(⟨1, (k : Int), v1, v2, v3, v4, hq_, false⟩ : Ou)] rfl (fun e => by cases e) V1 (by simp; omega) (by omega) ?_;intro vZ wZ hownZ gZ hoZ;have gsz := gZ.size;have sZ : ∀ g_, vZ.ownBlock = some g_ → g_ = E ∨ Y4.heap.size ≤ g_ := fun g_ e => by
         rcases hoZ with q | q
         ·
          exact sO g_ (by rw [← q]; exact e)
         rw [q] at e;simp at e
         omega
        have BarZ : AU E Y4.heap.size Y4 wZ := ⟨by omega, fun q hq hne => (gZ.block q (by omega) (fun e => by have := sO q e.symm; omega)).trans (hb3.block q hq hne)⟩;have BZ6 : Bw w wZ := B6.grown gZ B6.size (fun g_ e => by have := sO g_ e; omega);clear gZ V1 O2 hoZ;simp only [List.set_cons_zero, List.set_cons_succ];refine hK_ _ _ ⟨BarZ, ?_⟩;clear hK_ K_ hi;refine tw 10 6 vZ ?_;refine Ag ?_;clear O ha0 ha1 ha2 ha3 hb0 hb1 hb2 hb3;go_wp2
        go_roundw
        case rel => exact ⟨k + 1, by omega, by go_num, by rw [hN.out]; exact hownZ, sZ, BarZ, BZ6⟩
        case measure => simp [intOf]; omega
       have dr : (h.ro == 2) = false := by simpa using ho
       have hN : Hid (G ++ Cm id T (k + 1) = GH) := by unfold Hid; rw [KJ hh.out ho, hHN.out]
       replace ho : Hid _ := ho;go_wp2
       go_roundw
       case rel => exact ⟨k + 1, by omega, by go_num, by rw [hN.out]; exact O, sO, hBar, B5⟩
       case measure => simp [intOf]; omega
      obtain rfl : k = T.length := by omega
      obtain ⟨Z, hZ⟩ : ∃ Z, G ++ Cm id T T.length = Z := ⟨_, rfl⟩;rw [hZ] at O sO hO3 ⊢;replace hO3 : Hid _ := hO3;clear hZ;go_upto_region 15 with fail
      clear cc_ n0 n1;have OT : AA AK 11 47 Y2.heap.size wr (.slice aT T.length cT) T := oT.keep fun g_ e => hBar.block g_ (oT.lt g_ e).2 (by have := (oT.lt g_ e).1; omega)
      have JJ : ∀ g_, (Value.slice adk (Z).length capk).ownBlock = some g_ → (Value.slice aT T.length cT).ownBlock ≠ some g_ := fun g_ e e2 => by have h1 := sO g_ e; have h2 := oT.lt g_ e2; omega
      have RP := R5.put id (.slice aT T.length cT);have S8 : w.heap.size + 1 + 1 < wr.heap.size := R5.lt;obtain ⟨⟨r0, r1⟩, rf⟩ := R5;have BZ := (B5.setCell (p := ⟨w.heap.size + 1 + 1, 0, none⟩) (by show _ ≤ w.heap.size + 1 + 1; omega) (ji id)).setCell (p := ⟨w.heap.size + 1 + 1, 1, none⟩) (by show _ ≤ w.heap.size + 1 + 1; omega) (.slice aT T.length cT);have OZ : AA AK 11 47 w.heap.size ((wr.setCell ⟨w.heap.size + 1 + 1, 0, none⟩ (ji id)).setCell ⟨w.heap.size + 1 + 1, 1, none⟩ (.slice aT T.length cT)) (.slice aT T.length cT) T := (OT.base (by omega)).keep fun g' e => by
       have := (OT.lt g' e).1;rw [AE (by show g' ≠ w.heap.size + 1 + 1; omega), AE (by show g' ≠ w.heap.size + 1 + 1; omega)]
      have OQ : AA Aw 8 41 w.heap.size ((wr.setCell ⟨w.heap.size + 1 + 1, 0, none⟩ (ji id)).setCell ⟨w.heap.size + 1 + 1, 1, none⟩ (.slice aT T.length cT)) (.slice adk (Z).length capk) (Z) := (O.base (by omega)).keep fun g' e => by
       have := (O.lt g' e).1;rw [AE (by show g' ≠ w.heap.size + 1 + 1; omega), AE (by show g' ≠ w.heap.size + 1 + 1; omega)]
      obtain ⟨⟨p0, p1⟩, _⟩ := RP;obtain ⟨n0, n1⟩ := P5;go_wp2
      refine bodyPost_ret (v := .tuple #[.agg #[ji id, .slice aT T.length cT], .slice adk (Z).length capk]) (by simp [results, results54, go_sem, *]) rfl ⟨aT, cT, adk, capk, by rw [hD2.out, hO3.out], by rw [hD2.out]; exact OZ, by rw [hO3.out]; exact OQ, by rw [hD2.out, hO3.out]; exact JJ, BZ⟩
    have dk : (x.k == 2) = false := by simpa using hk2
    have hO3 : Hid (OO = G) := by unfold Hid; rw [hO2.out, if_neg hk2, List.append_nil]
    have d0 : decide ((0 : Int) < (T.length : Int)) = true := decide_eq_true (by omega);have d0' : decide (0 < T.length) = true := decide_eq_true (by omega);replace hk2 : Hid _ := hk2;clear hO2;go_upto_region 10 with fail
    go_wp2
    refine wp_loop_rounds 1 ?_; rw [rounds_succ]
    go_upto_region 15 with fail
    clear cc_ n0 n1;have OT : AA AK 11 47 Y2.heap.size wr (.slice aT T.length cT) T := oT.keep fun g_ e => hBar.block g_ (oT.lt g_ e).2 (by have := (oT.lt g_ e).1; omega)
    have JJ : ∀ g_, (Value.slice adk (G).length capk).ownBlock = some g_ → (Value.slice aT T.length cT).ownBlock ≠ some g_ := fun g_ e e2 => by have h1 := sO g_ e; have h2 := oT.lt g_ e2; omega
    have RP := R5.put id (.slice aT T.length cT);have S8 : w.heap.size + 1 + 1 < wr.heap.size := R5.lt;obtain ⟨⟨r0, r1⟩, rf⟩ := R5;have BZ := (B5.setCell (p := ⟨w.heap.size + 1 + 1, 0, none⟩) (by show _ ≤ w.heap.size + 1 + 1; omega) (ji id)).setCell (p := ⟨w.heap.size + 1 + 1, 1, none⟩) (by show _ ≤ w.heap.size + 1 + 1; omega) (.slice aT T.length cT);have OZ : AA AK 11 47 w.heap.size ((wr.setCell ⟨w.heap.size + 1 + 1, 0, none⟩ (ji id)).setCell ⟨w.heap.size + 1 + 1, 1, none⟩ (.slice aT T.length cT)) (.slice aT T.length cT) T := (OT.base (by omega)).keep fun g' e => by
     have := (OT.lt g' e).1;rw [AE (by show g' ≠ w.heap.size + 1 + 1; omega), AE (by show g' ≠ w.heap.size + 1 + 1; omega)]
    have OQ : AA Aw 8 41 w.heap.size ((wr.setCell ⟨w.heap.size + 1 + 1, 0, none⟩ (ji id)).setCell ⟨w.heap.size + 1 + 1, 1, none⟩ (.slice aT T.length cT)) (.slice adk (G).length capk) (G) := (O.base (by omega)).keep fun g' e => by
     have := (O.lt g' e).1;rw [AE (by show g' ≠ w.heap.size + 1 + 1; omega), AE (by show g' ≠ w.heap.size + 1 + 1; omega)]
    obtain ⟨⟨p0, p1⟩, _⟩ := RP;obtain ⟨n0, n1⟩ := P5;go_wp2
    refine bodyPost_ret (v := .tuple #[.agg #[ji id, .slice aT T.length cT], .slice adk (G).length capk]) (by simp [results, results54, go_sem, *]) rfl ⟨aT, cT, adk, capk, by rw [hD2.out, hO3.out], by rw [hD2.out]; exact OZ, by rw [hO3.out]; exact OQ, by rw [hD2.out, hO3.out]; exact JJ, BZ⟩
end Go.Proofs.YtjmnaeeknomiaaaGreatDoor
