import Derived.Test.YthgcbihhdbpbdaaGreatRKWRe2u
import Derived.Test.YthgcbihhdbpbdaaGreatRKWRe2l
import Derived.Test.YthgcbihhdbpbdaaGreatRM6
namespace Go.Proofs.YthgcbihhdbpbdaaGreat
open Go.ChangeShapes Go.WideShapes Go.ChangeAt Go.RowKit
open Go.ChangeMaps (open_string shut_string)
set_option linter.unusedVariables false
set_option maxRecDepth 100000
set_option maxHeartbeats 32000000
set_option linter.unusedSimpArgs false
open Go.Proofs.Tryz
attribute [local go_sem] ji ja ic
theorem HH {P : Program} {reg : Code} {K : Act → World → Prop} {Q : Exit → Act → World → Prop} {l : List Value} {ds : List Deferred} {W : World} (R : List Value → List Value → World → Prop) (h1 : ∀ l' W', R l l' W' → K ⟨l'.toArray, ds⟩ W') (h2 : ∀ K2 : Act → World → Prop, Hid (∀ l' W', R l l' W' → K2 ⟨l'.toArray, ds⟩ W') → Code.wp P reg (Exit.then K2 Q) ⟨l.toArray, ds⟩ W) : Code.wp P reg (Exit.then K Q) ⟨l.toArray, ds⟩ W := h2 K h1
def Cc (id : Int) (L : List Pt) (x : Ik) : Bool := Bp id L && (Av x && decide (0 ≤ x.q ∧ x.q < (L.length : Int)))
def Ba (id : Int) (L : List Pt) (x : Ik) : List Pt := if Cc id L x then Cl id L x else L
def BT (id : Int) (L : List Pt) (x : Ik) : List Ou := if Cc id L x then CM L (Cl id L x) L.length ++ (if x.k = 2 then CF id (Cl id L x) L.length else []) else []
theorem Im (id : Int) (L : List Pt) (x : Ik) : (Ba id L x).length = L.length := by
 unfold Ba;split
 ·
  exact GN id L x
 rfl
theorem KI {x : Ik} (h : Av x = true) : 0 ≤ x.q ∧ x.q ≤ 3 := by
 unfold Av at h;split at h
 ·
  simp only [Bool.and_eq_true, decide_eq_true_eq] at h; exact h.1
 split at h
 ·
  simp only [Bool.and_eq_true, decide_eq_true_eq] at h; exact h.1
 split at h
 ·
  simp only [decide_eq_true_eq] at h; omega
 cases h
theorem IG {x : Ik} (h : Av x = true) : x.k = 1 ∨ x.k = 2 ∨ x.k = 3 := by
 unfold Av at h;split at h
 ·
  exact .inl (by assumption)
 split at h
 ·
  exact .inr (.inr (by assumption))
 split at h
 ·
  exact .inr (.inl (by assumption))
 cases h
theorem Gf (id : Int) (ad : Option Addr) (cap : Nat) (L : List Pt) (x : Ik) (w : World) (hv : AH AJ w ad L) (hn : ad = none → cap = 0) (hg : Cc id L x = true) :
  Calls prog 136 #[.agg #[ji id, .slice ad L.length cap], Cd x] w fun e w' => ∃ ad' cap', e = .returned (.agg #[ji id, .slice ad' (Cl id L x).length cap']) ∧ AD AJ 11 70 w.heap.size w' (.slice ad' (Cl id L x).length cap') (Cl id L x) ∧ Bw w w' := by
 unfold Cc at hg;simp only [Bool.and_eq_true, decide_eq_true_eq] at hg;obtain ⟨hb, hx, hq⟩ := hg;have hl := (CQ hb).2.1.2;obtain ⟨kq, hkq⟩ : ∃ kq : Nat, x.q = (kq : Int) := ⟨x.q.toNat, by omega⟩;have hkl : kq < L.length := by omega
 have hto : x.q.toNat = kq := by omega
 rcases IG hx with e | e | e
 ·
  have ha : Cd x = .iface 187 (.agg #[ji (kq : Int), ji x.r, ji x.c, ji x.b, ji x.p, ji x.h]) := by unfold Cd; rw [if_pos e, hkq]
  have hm : Cl id L x = Ar id (L.set kq (BD (L.getD kq Pt.nil) x.r x.c x.b x.p x.h)) := by unfold Cl; rw [if_pos e, hto]
  rw [ha, hm];exact J3 id ad cap L kq x.r x.c x.b x.p x.h w hv hl hn hkl
 ·
  have ha : Cd x = .iface 188 (.agg #[]) := by unfold Cd; rw [if_neg (by omega), if_pos e]
  have hm : Cl id L x = Ar id (L.map BG) := by unfold Cl; rw [if_neg (by omega), if_pos e]
  rw [ha, hm];exact J0 id ad cap L w hv hl hn hb
 have ha : Cd x = .iface 190 (.agg #[ji (kq : Int), .bool x.up]) := by unfold Cd; rw [if_neg (by omega), if_neg (by omega), if_pos e, hkq]
 have hm : Cl id L x = if (L.getD kq Pt.nil).up = x.up then L else Ar id (L.set kq (Bu x.up)) := by unfold Cl; rw [if_neg (by omega), if_neg (by omega), hto]
 rw [ha, hm];exact J1 id ad cap L kq x.up w hv hl hn hkl
theorem IB (id : Int) (ad : Option Addr) (cap : Nat) (L : List Pt) (x : Ik) (w : World) (hv : AH AJ w ad L) (hl : L.length ≤ 1048576) (hn : ad = none → cap = 0) :
  Calls prog 110 #[.agg #[ji id, .slice ad L.length cap], .agg #[ji x.k, ji x.q, ji x.r, ji x.c, ji x.b, ji x.p, ji x.h, .bool x.up]] w fun e w' => ∃ ad' cap' ao co, e = .returned (.tuple #[.agg #[ji id, .slice ad' (Ba id L x).length cap'], .slice ao (BT id L x).length co]) ∧ AD AJ 11 70 w.heap.size w' (.slice ad' (Ba id L x).length cap') (Ba id L x) ∧ AD Ad 8 77 w.heap.size w' (.slice ao (BT id L x).length co) (BT id L x) ∧ (∀ g_, (Value.slice ao (BT id L x).length co).ownBlock = some g_ → (Value.slice ad' (Ba id L x).length cap').ownBlock ≠ some g_) ∧ Bw w w' := by
 obtain ⟨i0, hi, hz0, hz1, hz2⟩ := info_parts ES;have hB := hv.lt AK (by omega);obtain ⟨y, hy⟩ := AB (((w.alloc (Obj.cells #[ji id, .slice ad L.length cap] 42)).alloc (Obj.cells (ic x) 64)).alloc (Obj.cells #[ji 0, .slice none 0 0] 42));have B0 : Bw w y := by rw [hy]; exact (((Below.refl _ _).alloc (Nat.le_refl _) _).alloc (by simp) _).alloc (by simp; omega) _
 have A0 : Ab y w.heap.size id (.slice ad L.length cap) := by rw [hy]; constructor <;> simp [go_sem]
 have X0 : A8 y (w.heap.size + 1) x := by rw [hy]; constructor <;> simp [go_sem]
 have R0 : AP y (w.heap.size + 1 + 1) 0 (.slice none 0 0) := by rw [hy]; refine ⟨?_, fun i => ?_⟩; constructor <;> simp [go_sem]; simp [go_sem]
 have S0 := R0.lt;have hv1 := hv.below B0 hB;have hB1 := hv1.lt AK (by omega);clear hv hB;obtain ⟨D, hD⟩ : ∃ D, Ba id L x = D := ⟨_, rfl⟩;obtain ⟨OO, hO⟩ : ∃ D, BT id L x = D := ⟨_, rfl⟩;rw [hD, hO];replace hD : Hid _ := hD;replace hO : Hid _ := hO;go_enter func110, ntmps110
 go_upto_region 1 with fail
 rw [← hy];clear hy;have BY := B0;have cc_ := A0;obtain ⟨a0, a1⟩ := cc_;go_wp2_with fail
 go_at_call 42
 clear a0 a1;refine (Fb id ad cap L y hv1 hl).mono ?_;rintro e Y1 ⟨rfl, k1⟩;have z1 := k1.size;have A0 := A0.below k1 A0.lt;have X0 := X0.below k1 X0.lt;have R0 := R0.below k1 R0.lt;have hv1 := hv1.below k1 (hv1.lt AK (by omega));have BY := AA BY k1;clear k1;cases hb : Bp id L with
 | false =>
  have hgo : Cc id L x = false := by unfold Cc; rw [hb]; rfl
  have hN : Hid (D = L ∧ OO = []) := by
   unfold Hid;rw [← hD.out, ← hO.out];unfold Ba BT;rw [hgo];exact ⟨rfl, rfl⟩
  clear hD hO;have cc_ := A0;obtain ⟨a0, a1⟩ := cc_;go_wp2_with fail
  go_at_call 135
  clear a0 a1;have z9 := BY.size;refine (Es id ad cap L Y1 hv1 hl hn).mono ?_;rintro e w9 ⟨adN, capN, rfl, oN, k9⟩;have S9 : w.heap.size + 1 + 1 < Y1.heap.size := R0.lt;have R0 := R0.below k9 R0.lt;have BY := AA BY k9;have RP := R0.put id (.slice adN L.length capN);obtain ⟨⟨r0, r1⟩, rf⟩ := R0;have BZ := (BY.setCell (p := ⟨w.heap.size + 1 + 1, 0, none⟩) (by show _ ≤ w.heap.size + 1 + 1; omega) (ji id)).setCell (p := ⟨w.heap.size + 1 + 1, 1, none⟩) (by show _ ≤ w.heap.size + 1 + 1; omega) (.slice adN L.length capN);have OZ : AD AJ 11 70 w.heap.size ((w9.setCell ⟨w.heap.size + 1 + 1, 0, none⟩ (ji id)).setCell ⟨w.heap.size + 1 + 1, 1, none⟩ (.slice adN L.length capN)) (.slice adN L.length capN) L := (oN.base (by omega)).keep fun g' e => by
   have := (oN.lt g' e).1;rw [AE (by show g' ≠ w.heap.size + 1 + 1; omega), AE (by show g' ≠ w.heap.size + 1 + 1; omega)]
  obtain ⟨⟨p0, p1⟩, _⟩ := RP;go_wp2
  obtain ⟨rfl, rfl⟩ := hN.out;refine bodyPost_ret (v := .tuple #[.agg #[ji id, .slice adN D.length capN], .slice none 0 0]) (by simp [results, results110, go_sem, *]) rfl ⟨adN, capN, none, 0, rfl, OZ, AD.nil, fun g_ e => by simp [Value.ownBlock] at e, BZ⟩
 | true =>
  have hl4 := (CQ hb).2.1;have X1 := X0;replace X1 := X1.all;go_wp2_with fail
  go_at_call 97
  clear X1;refine (F6 x Y1).mono ?_;rintro e Y2 ⟨rfl, k2⟩;have z2 := k2.size;have A0 := A0.below k2 A0.lt;have X0 := X0.below k2 X0.lt;have R0 := R0.below k2 R0.lt;have hv1 := hv1.below k2 (hv1.lt AK (by omega));have BY := AA BY k2;clear k2;cases hx : Av x with
  | false =>
   have hgo : Cc id L x = false := by unfold Cc; rw [hb, hx]; rfl
   have hN : Hid (D = L ∧ OO = []) := by
    unfold Hid;rw [← hD.out, ← hO.out];unfold Ba BT;rw [hgo];exact ⟨rfl, rfl⟩
   clear hD hO;have cc_ := A0;obtain ⟨a0, a1⟩ := cc_;go_wp2_with fail
   go_at_call 135
   clear a0 a1;have z9 := BY.size;refine (Es id ad cap L Y2 hv1 hl hn).mono ?_;rintro e w9 ⟨adN, capN, rfl, oN, k9⟩;have S9 : w.heap.size + 1 + 1 < Y2.heap.size := R0.lt;have R0 := R0.below k9 R0.lt;have BY := AA BY k9;have RP := R0.put id (.slice adN L.length capN);obtain ⟨⟨r0, r1⟩, rf⟩ := R0;have BZ := (BY.setCell (p := ⟨w.heap.size + 1 + 1, 0, none⟩) (by show _ ≤ w.heap.size + 1 + 1; omega) (ji id)).setCell (p := ⟨w.heap.size + 1 + 1, 1, none⟩) (by show _ ≤ w.heap.size + 1 + 1; omega) (.slice adN L.length capN);have OZ : AD AJ 11 70 w.heap.size ((w9.setCell ⟨w.heap.size + 1 + 1, 0, none⟩ (ji id)).setCell ⟨w.heap.size + 1 + 1, 1, none⟩ (.slice adN L.length capN)) (.slice adN L.length capN) L := (oN.base (by omega)).keep fun g' e => by
    have := (oN.lt g' e).1;rw [AE (by show g' ≠ w.heap.size + 1 + 1; omega), AE (by show g' ≠ w.heap.size + 1 + 1; omega)]
   obtain ⟨⟨p0, p1⟩, _⟩ := RP;go_wp2
   obtain ⟨rfl, rfl⟩ := hN.out;refine bodyPost_ret (v := .tuple #[.agg #[ji id, .slice adN D.length capN], .slice none 0 0]) (by simp [results, results110, go_sem, *]) rfl ⟨adN, capN, none, 0, rfl, OZ, AD.nil, fun g_ e => by simp [Value.ownBlock] at e, BZ⟩
  | true =>
   have X1 := X0;replace X1 := X1.all;have cc_ := A0;obtain ⟨a0, a1⟩ := cc_;go_wp2_with fail
   go_at_call 134
   clear X1 a0 a1;refine (GZ id ad cap L x.q Y2 hl).mono ?_;rintro e Y3 ⟨rfl, k3⟩;have z3 := k3.size;have A0 := A0.below k3 A0.lt;have X0 := X0.below k3 X0.lt;have R0 := R0.below k3 R0.lt;have hv1 := hv1.below k3 (hv1.lt AK (by omega));have BY := AA BY k3;clear k3;cases hq : decide (0 ≤ x.q ∧ x.q < (L.length : Int)) with
   | false =>
    have hgo : Cc id L x = false := by unfold Cc; rw [hb, hx, hq]; rfl
    have hN : Hid (D = L ∧ OO = []) := by
     unfold Hid;rw [← hD.out, ← hO.out];unfold Ba BT;rw [hgo];exact ⟨rfl, rfl⟩
    clear hD hO;have cc_ := A0;obtain ⟨a0, a1⟩ := cc_;go_wp2_with fail
    go_at_call 135
    clear a0 a1;have z9 := BY.size;refine (Es id ad cap L Y3 hv1 hl hn).mono ?_;rintro e w9 ⟨adN, capN, rfl, oN, k9⟩;have S9 : w.heap.size + 1 + 1 < Y3.heap.size := R0.lt;have R0 := R0.below k9 R0.lt;have BY := AA BY k9;have RP := R0.put id (.slice adN L.length capN);obtain ⟨⟨r0, r1⟩, rf⟩ := R0;have BZ := (BY.setCell (p := ⟨w.heap.size + 1 + 1, 0, none⟩) (by show _ ≤ w.heap.size + 1 + 1; omega) (ji id)).setCell (p := ⟨w.heap.size + 1 + 1, 1, none⟩) (by show _ ≤ w.heap.size + 1 + 1; omega) (.slice adN L.length capN);have OZ : AD AJ 11 70 w.heap.size ((w9.setCell ⟨w.heap.size + 1 + 1, 0, none⟩ (ji id)).setCell ⟨w.heap.size + 1 + 1, 1, none⟩ (.slice adN L.length capN)) (.slice adN L.length capN) L := (oN.base (by omega)).keep fun g' e => by
     have := (oN.lt g' e).1;rw [AE (by show g' ≠ w.heap.size + 1 + 1; omega), AE (by show g' ≠ w.heap.size + 1 + 1; omega)]
    obtain ⟨⟨p0, p1⟩, _⟩ := RP;go_wp2
    obtain ⟨rfl, rfl⟩ := hN.out;refine bodyPost_ret (v := .tuple #[.agg #[ji id, .slice adN D.length capN], .slice none 0 0]) (by simp [results, results110, go_sem, *]) rfl ⟨adN, capN, none, 0, rfl, OZ, AD.nil, fun g_ e => by simp [Value.ownBlock] at e, BZ⟩
   | true =>
    have hgo : Cc id L x = true := by unfold Cc; rw [hb, hx, hq]; rfl
    obtain ⟨T, hT⟩ : ∃ T, Cl id L x = T := ⟨_, rfl⟩;have hTl : T.length = L.length := by rw [← hT]; exact GN id L x
    have hD2 : Hid (D = T) := by unfold Hid; rw [← hD.out, ← hT]; unfold Ba; rw [hgo]; rfl
    have hO2 : Hid (OO = CM L T T.length ++ (if x.k = 2 then CF id T T.length else [])) := by unfold Hid; rw [← hO.out, hTl, ← hT]; unfold BT; rw [hgo]; rfl
    have hT4 : T.length ≤ 4 := by omega
    replace hTl : Hid _ := hTl;replace hT : Hid _ := hT;clear hD hO hb hx hq;go_upto_region 3 with fail
    refine HH (fun l l' W' => ∃ (P : Nat) (aT : Option Addr) (cT : Nat) (us : List Value), us.length = 4 ∧ l' = l.take 6 ++ (.pointer (some (ja P 0)) :: (l.drop 7).take 18) ++ us ++ l.drop 29 ∧ AP W' P id (.slice aT T.length cT) ∧ AD AJ 11 70 Y3.heap.size W' (.slice aT T.length cT) T ∧ (∀ g_, (Value.slice aT T.length cT).ownBlock = some g_ → g_ ≠ P) ∧ Y3.heap.size ≤ P ∧ Bw Y3 W') ?_ ?_;rotate_left
    ·
     intro K2 hT3;refine AR (fun Y => Bw Y3 Y) fun u0 hb0 => ?_
     refine tw 0 25 (.agg #[ji id, .slice ad L.length cap]) ?_ (hy := by intro Y hSw; obtain ⟨X0_, X1_⟩ := A0.below hSw A0.lt; go_simp);refine tw 1 26 (.agg (ic x)) ?_ (hy := by intro Y hSw; obtain ⟨Z0, Z1, Z2, Z3, Z4, Z5, Z6, Z7⟩ := X0.below hSw X0.lt; go_simp);refine wpAnyH_all (rs := [2, 4]) (by kernel_rfl) (by simp) ?_;intro i hi; rcases (by simpa using hi : i = 2 ∨ i = 4) with rfl | rfl
     ·
      refine wpOp_step rfl (fun K hK => ?_);rw [if_pos (by kernel_rfl)];go_simp
      go_at_call 131
      refine (EX x u0).mono ?_;rintro e u1 ⟨rfl, kq⟩;have hb1 := AA hb0 kq;clear kq;refine hK _ _ ⟨hb1, ?_⟩;clear hK K hi;refine wpAnyH_all (rs := [3, 4]) (by kernel_rfl) (by simp) ?_;intro i hi; rcases (by simpa using hi : i = 3 ∨ i = 4) with rfl | rfl
      ·
       refine wpOp_step rfl (fun K hK => ?_);rw [if_pos (by kernel_rfl)];go_simp
       go_at_call 136
       refine (Gf id ad cap L x u1 (hv1.below hb1 (hv1.lt AK (by omega))) hn hgo).mono ?_;rintro e u2 ⟨aT, cT, rfl, oT, kq⟩;rw [hT.out] at oT ⊢;have bT : Y3.heap.size ≤ u1.heap.size := hb1.size;have hb2 := AA hb1 kq;clear kq;refine hK _ _ ⟨hb2, ?_⟩;clear hK K hi;refine wpAnyH_all (rs := [4]) (by kernel_rfl) (by simp) ?_;intro i hi; obtain rfl : i = 4 := by simpa using hi
       refine wpOp_step rfl (fun K hK => ?_);rw [if_pos (by kernel_rfl)];go_simp
       obtain ⟨u3, hy, kq⟩ := AI u2 (Obj.cells #[ji 0, .slice none 0 0] 42);have joT : ∀ g_, (Value.slice aT T.length cT).ownBlock = some g_ → g_ ≠ u2.heap.size := fun g_ e => by have h1 := (oT.lt g_ e).2; omega
       have oT := oT.later kq;have FP : AP u3 u2.heap.size 0 (.slice none 0 0) := by rw [hy]; exact AP.new u2 _ _ _
       have pa : Y3.heap.size ≤ u2.heap.size := hb2.size;have hb3 := AA hb2 kq;rw [← hy];clear hy kq;refine hK _ _ ⟨hb3, ?_⟩;clear hK K hi;refine wpAnyH_all (rs := [5]) (by kernel_rfl) (by simp) ?_;intro i hi; obtain rfl : i = 5 := by simpa using hi
       refine wpOp_step rfl (fun K hK => ?_);rw [if_pos (by kernel_rfl)];have FQ := FP;obtain ⟨⟨t0, t1⟩, tf⟩ := FP;go_simp
       clear t0 t1 tf;obtain ⟨uf, huf⟩ := AB ((u3.setCell (ja u2.heap.size 0) (ji id)).setCell (ja u2.heap.size 1) (.slice aT T.length cT));have FE : AP uf (u2.heap.size) id (.slice aT T.length cT) := by rw [huf]; exact FQ.put _ _
       have hbf : Bw Y3 uf := by rw [huf]; exact (hb3.setCell (p := (ja u2.heap.size 0)) pa _).setCell (p := (ja u2.heap.size 1)) pa _
       have oT := oT.keep (w' := uf) (fun g_ e => by rw [huf, AE (by show g_ ≠ u2.heap.size; exact joT g_ e), AE (by show g_ ≠ u2.heap.size; exact joT g_ e)]);rw [← huf];clear huf FQ;refine hK _ _ ⟨hbf, ?_⟩;clear hK K hi;refine AM ?_;exact hT3.out _ _ ⟨u2.heap.size, aT, cT, [(.agg #[ji id, .slice ad L.length cap] : Value), (.agg (ic x)), Cd x, .agg #[ji id, .slice aT T.length cT]], rfl, by kernel_rfl, FE, oT.base bT, joT, pa, hbf⟩
      refine wpOp_step rfl (fun K hK => ?_);rw [if_pos (by kernel_rfl)];go_simp
      obtain ⟨u2, hy, kq⟩ := AI u1 (Obj.cells #[ji 0, .slice none 0 0] 42);have FP : AP u2 u1.heap.size 0 (.slice none 0 0) := by rw [hy]; exact AP.new u1 _ _ _
      have pa : Y3.heap.size ≤ u1.heap.size := hb1.size;have hb2 := AA hb1 kq;rw [← hy];clear hy kq;refine hK _ _ ⟨hb2, ?_⟩;clear hK K hi;refine wpAnyH_all (rs := [3]) (by kernel_rfl) (by simp) ?_;intro i hi; obtain rfl : i = 3 := by simpa using hi
      refine wpOp_step rfl (fun K hK => ?_);rw [if_pos (by kernel_rfl)];go_simp
      go_at_call 136
      refine (Gf id ad cap L x u2 (hv1.below hb2 (hv1.lt AK (by omega))) hn hgo).mono ?_;rintro e u3 ⟨aT, cT, rfl, oT, kq⟩;rw [hT.out] at oT ⊢;have bT : Y3.heap.size ≤ u2.heap.size := hb2.size;have joT : ∀ g_, (Value.slice aT T.length cT).ownBlock = some g_ → g_ ≠ u1.heap.size := fun g_ e => by have h1 := (oT.lt g_ e).1; have h2 := FP.lt; omega
      have FP := FP.below kq FP.lt;have hb3 := AA hb2 kq;clear kq;refine hK _ _ ⟨hb3, ?_⟩;clear hK K hi;refine wpAnyH_all (rs := [5]) (by kernel_rfl) (by simp) ?_;intro i hi; obtain rfl : i = 5 := by simpa using hi
      refine wpOp_step rfl (fun K hK => ?_);rw [if_pos (by kernel_rfl)];have FQ := FP;obtain ⟨⟨t0, t1⟩, tf⟩ := FP;go_simp
      clear t0 t1 tf;obtain ⟨uf, huf⟩ := AB ((u3.setCell (ja u1.heap.size 0) (ji id)).setCell (ja u1.heap.size 1) (.slice aT T.length cT));have FE : AP uf (u1.heap.size) id (.slice aT T.length cT) := by rw [huf]; exact FQ.put _ _
      have hbf : Bw Y3 uf := by rw [huf]; exact (hb3.setCell (p := (ja u1.heap.size 0)) pa _).setCell (p := (ja u1.heap.size 1)) pa _
      have oT := oT.keep (w' := uf) (fun g_ e => by rw [huf, AE (by show g_ ≠ u1.heap.size; exact joT g_ e), AE (by show g_ ≠ u1.heap.size; exact joT g_ e)]);rw [← huf];clear huf FQ;refine hK _ _ ⟨hbf, ?_⟩;clear hK K hi;refine AM ?_;exact hT3.out _ _ ⟨u1.heap.size, aT, cT, [(.agg #[ji id, .slice ad L.length cap] : Value), (.agg (ic x)), Cd x, .agg #[ji id, .slice aT T.length cT]], rfl, by kernel_rfl, FE, oT.base bT, joT, pa, hbf⟩
     refine wpOp_step rfl (fun K hK => ?_);rw [if_pos (by kernel_rfl)];go_simp
     obtain ⟨u1, hy, kq⟩ := AI u0 (Obj.cells #[ji 0, .slice none 0 0] 42);have FP : AP u1 u0.heap.size 0 (.slice none 0 0) := by rw [hy]; exact AP.new u0 _ _ _
     have pa : Y3.heap.size ≤ u0.heap.size := hb0.size;have hb1 := AA hb0 kq;rw [← hy];clear hy kq;refine hK _ _ ⟨hb1, ?_⟩;clear hK K hi;refine wpAnyH_all (rs := [2]) (by kernel_rfl) (by simp) ?_;intro i hi; obtain rfl : i = 2 := by simpa using hi
     refine wpOp_step rfl (fun K hK => ?_);rw [if_pos (by kernel_rfl)];go_simp
     go_at_call 131
     refine (EX x u1).mono ?_;rintro e u2 ⟨rfl, kq⟩;have FP := FP.below kq FP.lt;have hb2 := AA hb1 kq;clear kq;refine hK _ _ ⟨hb2, ?_⟩;clear hK K hi;refine wpAnyH_all (rs := [3]) (by kernel_rfl) (by simp) ?_;intro i hi; obtain rfl : i = 3 := by simpa using hi
     refine wpOp_step rfl (fun K hK => ?_);rw [if_pos (by kernel_rfl)];go_simp
     go_at_call 136
     refine (Gf id ad cap L x u2 (hv1.below hb2 (hv1.lt AK (by omega))) hn hgo).mono ?_;rintro e u3 ⟨aT, cT, rfl, oT, kq⟩;rw [hT.out] at oT ⊢;have bT : Y3.heap.size ≤ u2.heap.size := hb2.size;have joT : ∀ g_, (Value.slice aT T.length cT).ownBlock = some g_ → g_ ≠ u0.heap.size := fun g_ e => by have h1 := (oT.lt g_ e).1; have h2 := FP.lt; omega
     have FP := FP.below kq FP.lt;have hb3 := AA hb2 kq;clear kq;refine hK _ _ ⟨hb3, ?_⟩;clear hK K hi;refine wpAnyH_all (rs := [5]) (by kernel_rfl) (by simp) ?_;intro i hi; obtain rfl : i = 5 := by simpa using hi
     refine wpOp_step rfl (fun K hK => ?_);rw [if_pos (by kernel_rfl)];have FQ := FP;obtain ⟨⟨t0, t1⟩, tf⟩ := FP;go_simp
     clear t0 t1 tf;obtain ⟨uf, huf⟩ := AB ((u3.setCell (ja u0.heap.size 0) (ji id)).setCell (ja u0.heap.size 1) (.slice aT T.length cT));have FE : AP uf (u0.heap.size) id (.slice aT T.length cT) := by rw [huf]; exact FQ.put _ _
     have hbf : Bw Y3 uf := by rw [huf]; exact (hb3.setCell (p := (ja u0.heap.size 0)) pa _).setCell (p := (ja u0.heap.size 1)) pa _
     have oT := oT.keep (w' := uf) (fun g_ e => by rw [huf, AE (by show g_ ≠ u0.heap.size; exact joT g_ e), AE (by show g_ ≠ u0.heap.size; exact joT g_ e)]);rw [← huf];clear huf FQ;refine hK _ _ ⟨hbf, ?_⟩;clear hK K hi;refine AM ?_;exact hT3.out _ _ ⟨u0.heap.size, aT, cT, [(.agg #[ji id, .slice ad L.length cap] : Value), (.agg (ic x)), Cd x, .agg #[ji id, .slice aT T.length cT]], rfl, by kernel_rfl, FE, oT.base bT, joT, pa, hbf⟩
    rintro l' Y4 ⟨P, aT, cT, us, hul, rfl, NP, oT, jT, pT, k4⟩;obtain ⟨u25, us, rfl⟩ : ∃ a b, us = a :: b := List.exists_cons_of_length_eq_add_one hul;replace hul := Nat.succ.inj hul;obtain ⟨u26, us, rfl⟩ : ∃ a b, us = a :: b := List.exists_cons_of_length_eq_add_one hul;replace hul := Nat.succ.inj hul;obtain ⟨u27, us, rfl⟩ : ∃ a b, us = a :: b := List.exists_cons_of_length_eq_add_one hul;replace hul := Nat.succ.inj hul;obtain ⟨u28, us, rfl⟩ : ∃ a b, us = a :: b := List.exists_cons_of_length_eq_add_one hul;replace hul := Nat.succ.inj hul;obtain rfl : us = [] := List.eq_nil_of_length_eq_zero hul;clear hul;simp only [List.take, List.drop, List.cons_append, List.nil_append];have z4 := k4.size;have A0 := A0.below k4 A0.lt;have X0 := X0.below k4 X0.lt;have R0 := R0.below k4 R0.lt;have hv1 := hv1.below k4 (hv1.lt AK (by omega));have BY := AA BY k4;clear k4;have vT : AH AJ Y4 aT T := oT.view.2;have cc_ := A0;obtain ⟨a0, a1⟩ := cc_;obtain ⟨⟨n0, n1⟩, nf⟩ := NP;have NP : Ab Y4 P id (.slice aT T.length cT) := ⟨n0, n1⟩;go_wp2_with fail
    go_at_call 137
    clear a0 a1 n0 n1 nf;refine (KJ id id ad aT cap cT L T Y4 hv1 vT hTl.out.symm hT4).mono ?_;rintro e Y5 ⟨aG, cG, rfl, oG, k5⟩;have jG : ∀ g_, (Value.slice aG (CM L T T.length).length cG).ownBlock = some g_ → (Value.slice aT T.length cT).ownBlock ≠ some g_ := fun g_ e e2 => by have h1 := (oG.lt g_ e).1; have h2 := (oT.lt g_ e2).2; omega
    have z5 := k5.size;have NPlt : P < Y4.heap.size := NP.lt;have S5 := oT.lt;have NP := NP.below k5 NP.lt;have oT := oT.later k5;have A0 := A0.below k5 A0.lt;have X0 := X0.below k5 X0.lt;have R0 := R0.below k5 R0.lt;have hv1 := hv1.below k5 (hv1.lt AK (by omega));have BY := AA BY k5;clear k5;have vT : AH AJ Y5 aT T := oT.view.2;have gl := FJ L T T.length;obtain ⟨G, hG⟩ : ∃ G, CM L T T.length = G := ⟨_, rfl⟩;rw [hG] at oG jG gl hO2 ⊢;replace hO2 : Hid _ := hO2;clear hG;have cc_ := X0;replace cc_ := cc_.all;by_cases hk : x.k = 2
    ·
     have dk : (x.k == 2) = true := by simpa using hk
     have hO3 : Hid (OO = G ++ CF id T T.length) := by unfold Hid; rw [hO2.out, if_pos hk]
     replace hk : Hid _ := hk;clear hO2;go_upto_region 6 with fail
     clear cc_;have cc_ := NP;obtain ⟨n0, n1⟩ := cc_;go_wp2_with fail
     go_at_call 138
     clear n0 n1;refine (Ko id aT cT T Y5 vT hT4).mono ?_;rintro e Y6 ⟨aC, cC, rfl, oC, k6⟩;have z6 := k6.size;have NP := NP.below k6 NP.lt;have oT := oT.later k6;have oG := oG.later k6;have A0 := A0.below k6 A0.lt;have X0 := X0.below k6 X0.lt;have R0 := R0.below k6 R0.lt;have hv1 := hv1.below k6 (hv1.lt AK (by omega));have BY := AA BY k6;clear k6;have tl := Fm id T T.length;obtain ⟨C, hC⟩ : ∃ C, CF id T T.length = C := ⟨_, rfl⟩;rw [hC] at oC tl hO3 ⊢;replace hO3 : Hid _ := hO3;clear hC;have hcn := oC.capn;have vC : AH Ad Y6 aC C := oC.view.2;have bG : Y4.heap.size ≤ Y6.heap.size := by omega
     have sT : ∀ g_, (Value.slice aT T.length cT).ownBlock = some g_ → g_ < Y4.heap.size := fun g_ e => (S5 g_ e).2
     have iG : ∀ g_, (Value.slice aG G.length cG).ownBlock = some g_ → Y4.heap.size ≤ g_ := fun g_ e => (oG.lt g_ e).1
     have pP : P < Y4.heap.size := NPlt;go_wp2_with (first | (at_builtin; refine DX Bt Di rfl _ _ 32 rfl Y4.heap.size 77 i0 (.agg #[ji 0, ji 0, ji 0, ji 0, ji 0, ji 0, ji 0, .bool false]) 64 underlying32 hi hz0 hz1 hz2 rfl (by decide) (by decide) (.slice aG G.length cG) G rfl oG aC cC C rfl hcn vC ?q0 bG ?_) | go_in)
     case q0 => omega
     intro vZ Y7 oZ gZ _;obtain ⟨aZ, cZ, hvz⟩ := oZ.open_;subst hvz;have z7 := gZ.size;have NP := NP.keep (gZ.block _ NP.lt (fun e => by have := iG _ e.symm; omega));have R0 := R0.keep (gZ.block _ R0.lt (fun e => by have := iG _ e.symm; have := R0.lt; omega));have jZ : ∀ g_, (Value.slice aZ (G ++ C).length cZ).ownBlock = some g_ → (Value.slice aT T.length cT).ownBlock ≠ some g_ := fun g_ e e2 => by have h1 := (oZ.lt g_ e).1; have h2 := sT g_ e2; omega
     have oT := oT.keep (fun g_ e => gZ.block g_ (oT.lt g_ e).2 (fun e2 => by have := iG _ e2.symm; have := sT g_ e; omega));have BY := BY.grown gZ BY.size (fun g_ e => by have := iG _ e; omega);clear gZ oG oC vC hcn;obtain ⟨Z, hZ⟩ : ∃ Z, G ++ C = Z := ⟨_, rfl⟩;rw [hZ] at oZ jZ hO3 ⊢;replace hO3 : Hid _ := hO3;clear hZ;go_upto_region 7 with fail
     have RP := R0.put id (.slice aT T.length cT);have S8 : w.heap.size + 1 + 1 < Y7.heap.size := R0.lt;obtain ⟨⟨r0, r1⟩, rf⟩ := R0;have BZ := (BY.setCell (p := ⟨w.heap.size + 1 + 1, 0, none⟩) (by show _ ≤ w.heap.size + 1 + 1; omega) (ji id)).setCell (p := ⟨w.heap.size + 1 + 1, 1, none⟩) (by show _ ≤ w.heap.size + 1 + 1; omega) (.slice aT T.length cT);have OZ : AD AJ 11 70 w.heap.size ((Y7.setCell ⟨w.heap.size + 1 + 1, 0, none⟩ (ji id)).setCell ⟨w.heap.size + 1 + 1, 1, none⟩ (.slice aT T.length cT)) (.slice aT T.length cT) T := (oT.base (by omega)).keep fun g' e => by
      have := (oT.lt g' e).1;rw [AE (by show g' ≠ w.heap.size + 1 + 1; omega), AE (by show g' ≠ w.heap.size + 1 + 1; omega)]
     have OQ : AD Ad 8 77 w.heap.size ((Y7.setCell ⟨w.heap.size + 1 + 1, 0, none⟩ (ji id)).setCell ⟨w.heap.size + 1 + 1, 1, none⟩ (.slice aT T.length cT)) (.slice aZ (Z).length cZ) (Z) := (oZ.base (by omega)).keep fun g' e => by
      have := (oZ.lt g' e).1;rw [AE (by show g' ≠ w.heap.size + 1 + 1; omega), AE (by show g' ≠ w.heap.size + 1 + 1; omega)]
     obtain ⟨⟨p0, p1⟩, _⟩ := RP;obtain ⟨n0, n1⟩ := NP;go_wp2
     refine bodyPost_ret (v := .tuple #[.agg #[ji id, .slice aT T.length cT], .slice aZ (Z).length cZ]) (by simp [results, results110, go_sem, *]) rfl ⟨aT, cT, aZ, cZ, by rw [hD2.out, hO3.out], by rw [hD2.out]; exact OZ, by rw [hO3.out]; exact OQ, by rw [hD2.out, hO3.out]; exact jZ, BZ⟩
    have dk : (x.k == 2) = false := by simpa using hk
    have hO3 : Hid (OO = G) := by unfold Hid; rw [hO2.out, if_neg hk, List.append_nil]
    replace hk : Hid _ := hk;clear hO2;go_upto_region 7 with fail
    clear cc_;have RP := R0.put id (.slice aT T.length cT);have S8 : w.heap.size + 1 + 1 < Y5.heap.size := R0.lt;obtain ⟨⟨r0, r1⟩, rf⟩ := R0;have BZ := (BY.setCell (p := ⟨w.heap.size + 1 + 1, 0, none⟩) (by show _ ≤ w.heap.size + 1 + 1; omega) (ji id)).setCell (p := ⟨w.heap.size + 1 + 1, 1, none⟩) (by show _ ≤ w.heap.size + 1 + 1; omega) (.slice aT T.length cT);have OZ : AD AJ 11 70 w.heap.size ((Y5.setCell ⟨w.heap.size + 1 + 1, 0, none⟩ (ji id)).setCell ⟨w.heap.size + 1 + 1, 1, none⟩ (.slice aT T.length cT)) (.slice aT T.length cT) T := (oT.base (by omega)).keep fun g' e => by
     have := (oT.lt g' e).1;rw [AE (by show g' ≠ w.heap.size + 1 + 1; omega), AE (by show g' ≠ w.heap.size + 1 + 1; omega)]
    have OQ : AD Ad 8 77 w.heap.size ((Y5.setCell ⟨w.heap.size + 1 + 1, 0, none⟩ (ji id)).setCell ⟨w.heap.size + 1 + 1, 1, none⟩ (.slice aT T.length cT)) (.slice aG (G).length cG) (G) := (oG.base (by omega)).keep fun g' e => by
     have := (oG.lt g' e).1;rw [AE (by show g' ≠ w.heap.size + 1 + 1; omega), AE (by show g' ≠ w.heap.size + 1 + 1; omega)]
    obtain ⟨⟨p0, p1⟩, _⟩ := RP;obtain ⟨n0, n1⟩ := NP;go_wp2
    refine bodyPost_ret (v := .tuple #[.agg #[ji id, .slice aT T.length cT], .slice aG (G).length cG]) (by simp [results, results110, go_sem, *]) rfl ⟨aT, cT, aG, cG, by rw [hD2.out, hO3.out], by rw [hD2.out]; exact OZ, by rw [hO3.out]; exact OQ, by rw [hD2.out, hO3.out]; exact jG, BZ⟩
end Go.Proofs.YthgcbihhdbpbdaaGreat
namespace Go.Proofs.YthgcbihhdbpbdaaGreat
open Go.ChangeShapes Go.WideShapes Go.ChangeAt Go.RowKit
open Go.ChangeMaps (open_string shut_string)
set_option linter.unusedVariables false
set_option maxRecDepth 100000
set_option maxHeartbeats 32000000
set_option linter.unusedSimpArgs false
open Go.Proofs.Tryz
theorem Iw {id : Int} {L : List Pt} {x : Ik} (h : Bp id L = false) : Ba id L x = L ∧ BT id L x = [] := by
 unfold Ba BT Cc;simp [h]
def CL (id : Int) (L : List Pt) (X : List Ik) : List Pt := X.foldl (Ba id) L
theorem Je (id : Int) (L : List Pt) (X Y : List Ik) : CL id L (X ++ Y) = CL id (CL id L X) Y := by
 unfold CL; rw [List.foldl_append]
theorem FS (id : Int) (X : List Ik) : ∀ L : List Pt, (CL id L X).length = L.length := by
 induction X with
 | nil => intro L; rfl
 | cons x X ih => intro L; show (CL id (Ba id L x) X).length = _; rw [ih, Im]
theorem Jd {id : Int} (X : List Ik) : ∀ {L : List Pt}, Bp id L = false → CL id L X = L := by
 induction X with
 | nil => intro L _; rfl
 | cons x X ih => intro L h; show CL id (Ba id L x) X = L; rw [(Iw h).1]; exact ih h
theorem Fp (id : Int) (L : List Pt) (X : List Ik) (d : Ik) {k : Nat} (hk : k < X.length) : CL id L (X.take (k + 1)) = Ba id (CL id L (X.take k)) (X.getD k d) := by
 rw [List.take_add_one, Je];have e : X[k]?.toList = [X.getD k d] := by simp [List.getD, hk]
 rw [e]; rfl
def D7 (id : Int) (L : List Pt) (X : List Ik) (d : Ik) (n : Int) : List Ou :=
 if 0 ≤ n ∧ n < (X.length : Int) then BT id (CL id L (X.take n.toNat)) (X.getD n.toNat d) else []
theorem JX (id : Int) (L : List Pt) (X : List Ik) (d : Ik) {k : Nat} (hk : k < X.length) : D7 id L X d (k : Int) = BT id (CL id L (X.take k)) (X.getD k d) := by
 unfold D7; rw [if_pos ⟨by omega, by omega⟩]; simp
def Ao : Ik := ⟨0, 0, 0, 0, 0, 0, 0, false⟩
def Mi.nil : Mi := ⟨false, 0, 0, [], 0, 0, 0⟩
structure Wi where
 fr : Int
 ak : Bool
 li : Int
 n : Int
 x : Ik
structure Bx where
 id : Int
 po : Int
 rg : Rg
 two : List Mi
 net : List Wi
 ga : List Bool
 ln : List Ik
 sd : List Ou
structure De where
 k : Int
 a : Int
 x : Ik
def Dn (x : Ik) : Bool := decide (x.k = 0 ∧ x.q = 0 ∧ x.r = 0 ∧ x.c = 0 ∧ x.b = 0 ∧ x.p = 0 ∧ x.h = 0 ∧ x.up = false)
def BH (w : Wi) : Bool := decide (0 ≤ w.fr ∧ w.fr ≤ 1) && (Be w.li && (Be w.n && (if w.ak then Dn w.x else Av w.x)))
def AT (x : Bx) (s : Int) : Mi := x.two.getD s.toNat Mi.nil
def AX (x : Bx) : Bool :=
 Ay x.id x.po && (BR x.rg && (decide (x.two.length = 2) && (Aq (AT x 0) && (Aq (AT x 1) && (x.net.all BH && (decide (x.net.length ≤ 20) && (decide ((x.ga.length : Int) = x.po) && (Co x.ln && decide (x.sd.length ≤ 40)))))))))
theorem Dj {x : Bx} : AX x = true ↔ Ay x.id x.po = true ∧ BR x.rg = true ∧ x.two.length = 2 ∧ Aq (AT x 0) = true ∧ Aq (AT x 1) = true ∧ x.net.all BH = true ∧ x.net.length ≤ 20 ∧ (x.ga.length : Int) = x.po ∧ Co x.ln = true ∧ x.sd.length ≤ 40 := by
 unfold AX;simp only [Bool.and_eq_true, decide_eq_true_eq]
def E8 (id po : Int) : Bx := ⟨id, po, ⟨1, 0, 0⟩, [⟨true, 1, 1, [], 0, 0, 0⟩, ⟨true, 2, 0, [], 0, 0, 0⟩], [], (Ap id po).map Pt.op, [], []⟩
theorem Ho {id po : Int} (h : Ay id po = true) : AX (E8 id po) = true := by
 refine Dj.2 ⟨h, rfl, rfl, rfl, rfl, rfl, Nat.zero_le _, ?_, rfl, Nat.zero_le _⟩;show (((Ap id po).map Pt.op).length : Int) = po;unfold Ap;rw [if_pos h];unfold Ay at h;simp only [Bool.and_eq_true, decide_eq_true_eq] at h;simp
 omega
def Bh (x : Bx) (s : Int) : Bool := decide (0 ≤ s ∧ s < (x.two.length : Int)) && Cz x.rg s (AT x s)
def Ci (x : Bx) : Int := if Bh x 0 then 0 else if Bh x 1 then 1 else -1
def EG (x : Bx) (s : Int) (m : Mi) : Bx := ⟨x.id, x.po, x.rg, x.two.set s.toNat m, x.net, x.ga, x.ln, x.sd⟩
def DB (x : Bx) (N : List Wi) : Bx := ⟨x.id, x.po, x.rg, x.two, N, x.ga, x.ln, x.sd⟩
def FZ (x : Bx) (r : Rg) : Bx := ⟨x.id, x.po, r, x.two, x.net, x.ga, x.ln, x.sd⟩
def EL (G : List Bool) (o : Ou) : List Bool := if o.k = 2 ∧ 0 ≤ o.pt ∧ o.pt < (G.length : Int) then G.set o.pt.toNat o.on else G
theorem Hg (O : List Ou) : ∀ G : List Bool, (O.foldl EL G).length = G.length := by
 induction O with
 | nil => intro G; rfl
 | cons o O ih =>
  intro G;rw [List.foldl_cons, ih];unfold EL;split <;> simp
def Bv (O : List Ou) : List Ou := O.drop (O.length - 40)
theorem Ha (O : List Ou) : (Bv O).length ≤ 40 := by unfold Bv; rw [List.length_drop]; omega
theorem I3 (O P : List Ou) : Bv (Bv O ++ P) = Bv (O ++ P) := by
 unfold Bv;rw [List.length_append, List.length_append, List.length_drop, List.drop_append, List.drop_append, List.drop_drop, List.length_drop];congr 2 <;> omega
def Cp (x : Bx) (s : Int) (O : List Ou) : Bx := if Bh x s then ⟨x.id, x.po, x.rg, x.two, x.net, O.foldl EL x.ga, x.ln, Bv (x.sd ++ O)⟩ else x
def Eb (x : Bx) (d : De) : Bx × Int :=
 if Ci x < 0 ∨ Av d.x = false ∨ x.po ≤ d.x.q then (x, 3)
 else if DR (AT x (Ci x)) d.x then (EG x (Ci x) (AQ (AT x (Ci x)) d.x), 0) else (x, 4)
def Ep (x : Bx) (s : Int) : Int := if (AT x s).al = (AT x (1 - s)).li then (AT x s).ac else 0
def Eh (x : Bx) (s : Int) : Bx × Int :=
 if Bh x s = false ∨ ((AT x s).lg.length : Int) ≤ Ep x s then (x, 3)
 else if 20 ≤ x.net.length then (x, 4)
 else (DB x (x.net ++ [⟨s, false, (AT x (1 - s)).li, Ep x s, (AT x s).lg.getD (Ep x s).toNat Ao⟩]), 0)
def G8 (m : Mi) (w : Wi) : Mi := ⟨m.up, m.li, m.ep, m.lg, m.sd, min w.n (m.lg.length : Int), w.li⟩
def Do (x : Bx) (w : Wi) : Bx := if (AT x (1 - w.fr)).ep = 0 ∧ w.n = ((AT x (1 - w.fr)).lg.length : Int) then EG x (1 - w.fr) (AQ (AT x (1 - w.fr)) w.x) else x
def C6 (x : Bx) (w : Wi) : Bx :=
 if (AT x (1 - w.fr)).up = false then x
 else if w.ak then
  if Bh x (1 - w.fr) = true ∧ ((AT x (1 - w.fr)).al < w.li ∨ w.li = (AT x (1 - w.fr)).al ∧ (AT x (1 - w.fr)).ac < w.n) then EG x (1 - w.fr) (G8 (AT x (1 - w.fr)) w) else x
 else if w.li ≠ (AT x (1 - w.fr)).li then x
 else if x.net.length < 20 then DB (Do x w) (x.net ++ [⟨1 - w.fr, true, (AT x (1 - w.fr)).li, ((AT (Do x w) (1 - w.fr)).lg.length : Int), Ao⟩]) else Do x w
def Db (x : Bx) (d : De) : Bx × Int :=
 if d.a < 0 ∨ (x.net.length : Int) ≤ d.a then (x, 2)
 else if d.k = 5 then
  if 20 ≤ x.net.length then (x, 4) else (DB x (x.net ++ [x.net.getD d.a.toNat ⟨0, false, 0, 0, Ao⟩]), 0)
 else if d.k = 3 then (C6 (DB x (x.net.take d.a.toNat ++ x.net.drop (d.a.toNat + 1))) (x.net.getD d.a.toNat ⟨0, false, 0, 0, Ao⟩), 0)
 else (DB x (x.net.take d.a.toNat ++ x.net.drop (d.a.toNat + 1)), 0)
def ET (m : Mi) : Mi := ⟨m.up, m.li, m.ep, m.lg, m.sd + 1, m.ac, m.al⟩
def EE (x : Bx) (n : Int) (y : Ik) : Bx := if (x.ln.length : Int) ≤ n then ⟨x.id, x.po, x.rg, x.two, x.net, x.ga, x.ln ++ [y], x.sd⟩ else x
def EM (x : Bx) : Bx × Int :=
 if Ci x < 0 ∨ Dk (AT x (Ci x)) x.rg.pa = false then (x, 3)
 else (EG (EE (Cp x (Ci x) (D7 (Bf x.id x.po) (Ap x.id x.po) (AT x (Ci x)).lg Ao (AT x (Ci x)).sd)) (AT x (Ci x)).sd ((AT x (Ci x)).lg.getD (AT x (Ci x)).sd.toNat Ao)) (Ci x) (ET (AT x (Ci x))), 0)
def Gu (x : Bx) : Mi := ⟨true, max (AT x 0).li (AT x 1).li + 1, 0, [], 0, 0, 0⟩
def Dr (x : Bx) (d : De) : Bx × Int :=
 if d.k = 7 ∧ (AT x d.a).up = true then (EG x d.a ⟨false, (AT x d.a).li, 0, [], 0, 0, 0⟩, 0)
 else if (d.k = 8 ∧ (AT x d.a).up = false) ∨ (d.k = 12 ∧ (AT x d.a).up = true ∧ 0 < (AT x d.a).ep ∧ Bh x d.a = false) then (EG x d.a (Gu x), 0)
 else (x, 3)
def IP (x : Bx) (m : Mi) : Mi := ⟨(Bc x.rg m).up, (Bc x.rg m).li, (Bc x.rg m).ep, (Bc x.rg m).lg, (x.ln.length : Int), (Bc x.rg m).ac, (Bc x.rg m).al⟩
def EV (x : Bx) (d : De) : Bx × Int :=
 if d.k = 9 then
  if CT x.rg d.a (AT x d.a) = false then (x, 3)
  else if (AT x d.a).lg.length < x.ln.length then (x, 4)
  else (EG (FZ x (CP x.rg d.a)) d.a (IP x (AT x d.a)), 0)
 else if DQ x.rg d.a (AT x d.a) (if d.k = 10 then (AT x d.a).al else 0) then (FZ x (DW x.rg d.a (AT x d.a) (if d.k = 10 then (AT x d.a).al else 0)), 0)
 else (x, 3)
def DI (x : Bx) (d : De) : Bx × Int :=
 if d.k = 1 then Eb x d else if d.k = 6 then EM x else if d.k = 3 ∨ d.k = 4 ∨ d.k = 5 then Db x d
 else if d.a < 0 ∨ 1 < d.a then (x, 2)
 else if d.k = 2 then Eh x d.a else if d.k = 7 ∨ d.k = 8 ∨ d.k = 12 then Dr x d else EV x d
attribute [local go_sem] ji ja
def Wi.nil : Wi := ⟨0, false, 0, 0, Ao⟩
structure AF where
 m : Mi
 ad : Option Addr
 cap : Nat
def AF.nil : AF := ⟨Mi.nil, none, 0⟩
def BA (x : Wi) : List Value := [ji x.fr, .bool x.ak, ji x.li, ji x.n, ji x.x.k, ji x.x.q, ji x.x.r, ji x.x.c, ji x.x.b, ji x.x.p, ji x.x.h, .bool x.x.up]
theorem CX (x : Wi) : (BA x).length = 12 := rfl
theorem DP (L : List Wi) : ∀ u ∈ Ac BA L, u.oneCell' = true := by
 induction L with
 | nil => intro u h; cases h
 | cons x L ih =>
  intro u h;simp only [Ac, BA, List.mem_append, List.mem_cons, List.not_mem_nil, or_false] at h;rcases h with (rfl | rfl | rfl | rfl | rfl | rfl | rfl | rfl | rfl | rfl | rfl | rfl) | h
  ·
   rfl
  ·
   rfl
  ·
   rfl
  ·
   rfl
  ·
   rfl
  ·
   rfl
  ·
   rfl
  ·
   rfl
  ·
   rfl
  ·
   rfl
  ·
   rfl
  ·
   rfl
  exact ih u h
structure Ch (w : World) (b o : Nat) (x : Wi) : Prop where
 c0 : w.cell? (ja b o) = some (ji x.fr)
 c1 : w.cell? ⟨b, o + 1, none⟩ = some (.bool x.ak)
 c2 : w.cell? ⟨b, o + 2, none⟩ = some (ji x.li)
 c3 : w.cell? ⟨b, o + 3, none⟩ = some (ji x.n)
 c4 : w.cell? ⟨b, o + 4, none⟩ = some (ji x.x.k)
 c5 : w.cell? ⟨b, o + 5, none⟩ = some (ji x.x.q)
 c6 : w.cell? ⟨b, o + 6, none⟩ = some (ji x.x.r)
 c7 : w.cell? ⟨b, o + 7, none⟩ = some (ji x.x.c)
 c8 : w.cell? ⟨b, o + 8, none⟩ = some (ji x.x.b)
 c9 : w.cell? ⟨b, o + 9, none⟩ = some (ji x.x.p)
 c10 : w.cell? ⟨b, o + 10, none⟩ = some (ji x.x.h)
 c11 : w.cell? ⟨b, o + 11, none⟩ = some (.bool x.x.up)
theorem Ch.all {w : World} {b o : Nat} {x : Wi} (h : Ch w b o x) : w.cell? (ja b o) = some (ji x.fr) ∧ w.cell? ⟨b, o + 1, none⟩ = some (.bool x.ak) ∧ w.cell? ⟨b, o + 2, none⟩ = some (ji x.li) ∧ w.cell? ⟨b, o + 3, none⟩ = some (ji x.n) ∧ w.cell? ⟨b, o + 4, none⟩ = some (ji x.x.k) ∧ w.cell? ⟨b, o + 5, none⟩ = some (ji x.x.q) ∧ w.cell? ⟨b, o + 6, none⟩ = some (ji x.x.r) ∧ w.cell? ⟨b, o + 7, none⟩ = some (ji x.x.c) ∧ w.cell? ⟨b, o + 8, none⟩ = some (ji x.x.b) ∧ w.cell? ⟨b, o + 9, none⟩ = some (ji x.x.p) ∧ w.cell? ⟨b, o + 10, none⟩ = some (ji x.x.h) ∧ w.cell? ⟨b, o + 11, none⟩ = some (.bool x.x.up) := ⟨h.c0, h.c1, h.c2, h.c3, h.c4, h.c5, h.c6, h.c7, h.c8, h.c9, h.c10, h.c11⟩
theorem GV {w : World} {b o : Nat} {x : Wi} (h : ∀ j v, (BA x)[j]? = some v → w.cell? ⟨b, o + j, none⟩ = some v) : Ch w b o x := ⟨h 0 _ rfl, h 1 _ rfl, h 2 _ rfl, h 3 _ rfl, h 4 _ rfl, h 5 _ rfl, h 6 _ rfl, h 7 _ rfl, h 8 _ rfl, h 9 _ rfl, h 10 _ rfl, h 11 _ rfl⟩
def BI (x : AF) : List Value := [.bool x.m.up, ji x.m.li, ji x.m.ep, .slice x.ad x.m.lg.length x.cap, ji x.m.sd, ji x.m.ac, ji x.m.al]
theorem Au (x : AF) : (BI x).length = 7 := rfl
theorem Ip (L : List AF) : ∀ u ∈ Ac BI L, u.oneCell' = true := by
 induction L with
 | nil => intro u h; cases h
 | cons x L ih =>
  intro u h;simp only [Ac, BI, List.mem_append, List.mem_cons, List.not_mem_nil, or_false] at h;rcases h with (rfl | rfl | rfl | rfl | rfl | rfl | rfl) | h
  ·
   rfl
  ·
   rfl
  ·
   rfl
  ·
   rfl
  ·
   rfl
  ·
   rfl
  ·
   rfl
  exact ih u h
structure BE (w : World) (b o : Nat) (x : AF) : Prop where
 c0 : w.cell? (ja b o) = some (.bool x.m.up)
 c1 : w.cell? ⟨b, o + 1, none⟩ = some (ji x.m.li)
 c2 : w.cell? ⟨b, o + 2, none⟩ = some (ji x.m.ep)
 c3 : w.cell? ⟨b, o + 3, none⟩ = some (.slice x.ad x.m.lg.length x.cap)
 c4 : w.cell? ⟨b, o + 4, none⟩ = some (ji x.m.sd)
 c5 : w.cell? ⟨b, o + 5, none⟩ = some (ji x.m.ac)
 c6 : w.cell? ⟨b, o + 6, none⟩ = some (ji x.m.al)
theorem BE.all {w : World} {b o : Nat} {x : AF} (h : BE w b o x) : w.cell? (ja b o) = some (.bool x.m.up) ∧ w.cell? ⟨b, o + 1, none⟩ = some (ji x.m.li) ∧ w.cell? ⟨b, o + 2, none⟩ = some (ji x.m.ep) ∧ w.cell? ⟨b, o + 3, none⟩ = some (.slice x.ad x.m.lg.length x.cap) ∧ w.cell? ⟨b, o + 4, none⟩ = some (ji x.m.sd) ∧ w.cell? ⟨b, o + 5, none⟩ = some (ji x.m.ac) ∧ w.cell? ⟨b, o + 6, none⟩ = some (ji x.m.al) := ⟨h.c0, h.c1, h.c2, h.c3, h.c4, h.c5, h.c6⟩
theorem CJ {w : World} {b o : Nat} {x : AF} (h : ∀ j v, (BI x)[j]? = some v → w.cell? ⟨b, o + j, none⟩ = some v) : BE w b o x := ⟨h 0 _ rfl, h 1 _ rfl, h 2 _ rfl, h 3 _ rfl, h 4 _ rfl, h 5 _ rfl, h 6 _ rfl⟩
structure AG where
 id : Int
 po : Int
 rg : Rg
 two : List AF
 aT : Option Addr
 cT : Nat
 net : List Wi
 aN : Option Addr
 cN : Nat
 ga : List Bool
 aG : Option Addr
 cG : Nat
 ln : List Ik
 aL : Option Addr
 cL : Nat
 sd : List Ou
 aS : Option Addr
 cS : Nat
abbrev bc (x : AG) : Array Value := #[ji x.id, ji x.po, ji x.rg.ep, ji x.rg.ow, ji x.rg.pa, .slice x.aT x.two.length x.cT, .slice x.aN x.net.length x.cN, .slice x.aG x.ga.length x.cG, .slice x.aL x.ln.length x.cL, .slice x.aS x.sd.length x.cS]
attribute [local go_sem] bc
def AG.p (x : AG) : Bx := ⟨x.id, x.po, x.rg, x.two.map AF.m, x.net, x.ga, x.ln, x.sd⟩
structure AZ (w : World) (q : Nat) (x : AG) : Prop where
 c0 : w.cell? (ja q 0) = some (ji x.id)
 c1 : w.cell? (ja q 1) = some (ji x.po)
 c2 : w.cell? (ja q 2) = some (ji x.rg.ep)
 c3 : w.cell? (ja q 3) = some (ji x.rg.ow)
 c4 : w.cell? (ja q 4) = some (ji x.rg.pa)
 c5 : w.cell? (ja q 5) = some (.slice x.aT x.two.length x.cT)
 c6 : w.cell? (ja q 6) = some (.slice x.aN x.net.length x.cN)
 c7 : w.cell? (ja q 7) = some (.slice x.aG x.ga.length x.cG)
 c8 : w.cell? (ja q 8) = some (.slice x.aL x.ln.length x.cL)
 c9 : w.cell? (ja q 9) = some (.slice x.aS x.sd.length x.cS)
theorem AZ.all {w : World} {q : Nat} {x : AG} (h : AZ w q x) : w.cell? (ja q 0) = some (ji x.id) ∧ w.cell? (ja q 1) = some (ji x.po) ∧ w.cell? (ja q 2) = some (ji x.rg.ep) ∧ w.cell? (ja q 3) = some (ji x.rg.ow) ∧ w.cell? (ja q 4) = some (ji x.rg.pa) ∧ w.cell? (ja q 5) = some (.slice x.aT x.two.length x.cT) ∧ w.cell? (ja q 6) = some (.slice x.aN x.net.length x.cN) ∧ w.cell? (ja q 7) = some (.slice x.aG x.ga.length x.cG) ∧ w.cell? (ja q 8) = some (.slice x.aL x.ln.length x.cL) ∧ w.cell? (ja q 9) = some (.slice x.aS x.sd.length x.cS) := ⟨h.c0, h.c1, h.c2, h.c3, h.c4, h.c5, h.c6, h.c7, h.c8, h.c9⟩
theorem AZ.keep {w w' : World} {q : Nat} {x : AG} (h : AZ w q x) (k : w'.heap[q]? = w.heap[q]?) : AZ w' q x :=
 ⟨(World.cell?_of_block (a := (ja q 0)) k).trans h.c0, (World.cell?_of_block (a := (ja q 1)) k).trans h.c1, (World.cell?_of_block (a := (ja q 2)) k).trans h.c2, (World.cell?_of_block (a := (ja q 3)) k).trans h.c3, (World.cell?_of_block (a := (ja q 4)) k).trans h.c4, (World.cell?_of_block (a := (ja q 5)) k).trans h.c5, (World.cell?_of_block (a := (ja q 6)) k).trans h.c6, (World.cell?_of_block (a := (ja q 7)) k).trans h.c7, (World.cell?_of_block (a := (ja q 8)) k).trans h.c8, (World.cell?_of_block (a := (ja q 9)) k).trans h.c9⟩
theorem AZ.below {w w' : World} {q n : Nat} {x : AG} (h : AZ w q x) (k : Below n w w') (hq : q < n) : AZ w' q x := h.keep (k.block q hq)
theorem AZ.lt {w : World} {q : Nat} {x : AG} (h : AZ w q x) : q < w.heap.size := World.block_lt_of_cell? w _ h.c0
theorem AZ.new (w : World) (t : TypeId) (x : AG) : AZ (w.alloc (Obj.cells (bc x) t)) w.heap.size x := by
 refine ⟨?_, ?_, ?_, ?_, ?_, ?_, ?_, ?_, ?_, ?_⟩ <;> simp [go_sem]
structure Cs (w : World) (x : AG) : Prop where
 t : AH BI w x.aT x.two
 l : ∀ i, i < x.two.length → AH AS w (x.two.getD i AF.nil).ad (x.two.getD i AF.nil).m.lg
 n : AH BA w x.aN x.net
 g : AH Bj w x.aG x.ga
 i : AH AS w x.aL x.ln
 s : AH Ad w x.aS x.sd
 bt : x.two.length ≤ 1048576
 bl : ∀ i, i < x.two.length → (x.two.getD i AF.nil).m.lg.length ≤ 1048576
 bn : x.net.length ≤ 1048576
 bg : x.ga.length ≤ 1048576
 bi : x.ln.length ≤ 1048576
 bs : x.sd.length ≤ 1048576
 ct : x.two.length ≤ x.cT
theorem Cs.later {w w' : World} {x : AG} (h : Cs w x) (k : Bw w w') : Cs w' x :=
 ⟨h.t.below k (h.t.lt Au (by omega)), fun i hi => (h.l i hi).below k ((h.l i hi).lt Aa (by omega)), h.n.below k (h.n.lt CX (by omega)), h.g.below k (h.g.lt DE (by omega)), h.i.below k (h.i.lt Aa (by omega)), h.s.below k (h.s.lt Bt (by omega)), h.bt, h.bl, h.bn, h.bg, h.bi, h.bs, h.ct⟩
theorem CC (x : AG) (s : Int) : AT x.p s = (x.two.getD s.toNat AF.nil).m := by
 unfold AT AG.p;simp only [List.getD, List.getElem?_map];cases x.two[s.toNat]? <;> rfl
end Go.Proofs.YthgcbihhdbpbdaaGreat
