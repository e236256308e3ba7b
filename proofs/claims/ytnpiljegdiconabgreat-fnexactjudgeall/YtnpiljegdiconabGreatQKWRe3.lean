import Derived.Test.YtnpiljegdiconabGreatQKWRe2l
import Derived.Test.YtnpiljegdiconabGreatQKWIn2
namespace Go.Proofs.YtnpiljegdiconabGreat
open Go.ChangeShapes Go.WideShapes Go.ChangeAt Go.RowKit
open Go.ChangeMaps (open_string shut_string)
set_option linter.unusedVariables false
set_option maxRecDepth 100000
theorem join_region {P : Program} {reg : Code} {K : Act → World → Prop} {Q : Exit → Act → World → Prop} {l : List Value} {ds : List Deferred} {W : World} (R : List Value → List Value → World → Prop) (h1 : ∀ l' W', R l l' W' → K ⟨l'.toArray, ds⟩ W') (h2 : ∀ K2 : Act → World → Prop, Hid (∀ l' W', R l l' W' → K2 ⟨l'.toArray, ds⟩ W') → Code.wp P reg (Exit.then K2 Q) ⟨l.toArray, ds⟩ W) : Code.wp P reg (Exit.then K Q) ⟨l.toArray, ds⟩ W := h2 K h1
def goes (id : Int) (L : List Pt) (x : Ik) : Bool := bOk id L && (inOk x && decide (0 ≤ x.q ∧ x.q < (L.length : Int)))
def reactL (id : Int) (L : List Pt) (x : Ik) : List Pt := if goes id L x then afterL id L x else L
def reactO (id : Int) (L : List Pt) (x : Ik) : List Ou := if goes id L x then gatesTo L (afterL id L x) L.length ++ (if x.k = 2 then toldTo id (afterL id L x) L.length else []) else []
theorem reactL_len (id : Int) (L : List Pt) (x : Ik) : (reactL id L x).length = L.length := by
 unfold reactL
 split
 ·
  exact afterL_len id L x
 ·
  rfl
theorem inOk_q {x : Ik} (h : inOk x = true) : 0 ≤ x.q ∧ x.q ≤ 3 := by
 unfold inOk at h
 split at h
 ·
  simp only [Bool.and_eq_true, decide_eq_true_eq] at h; exact h.1
 ·
  split at h
  ·
   simp only [Bool.and_eq_true, decide_eq_true_eq] at h; exact h.1
  ·
   split at h
   ·
    simp only [decide_eq_true_eq] at h; omega
   ·
    cases h
theorem inOk_k {x : Ik} (h : inOk x = true) : x.k = 1 ∨ x.k = 2 ∨ x.k = 3 := by
 unfold inOk at h
 split at h
 ·
  exact .inl (by assumption)
 ·
  split at h
  ·
   exact .inr (.inr (by assumption))
  ·
   split at h
   ·
    exact .inr (.inl (by assumption))
   ·
    cases h
theorem takenI (id : Int) (ad : Option Addr) (cap : Nat) (L : List Pt) (x : Ik) (w : World) (hv : FView ptEnc w ad L) (hn : ad = none → cap = 0) (hg : goes id L x = true) :
  Calls Tryz.prog 94 #[.agg #[.int .i64 id, .slice ad L.length cap], arrV x] w fun e w' => ∃ ad' cap', e = .returned (.agg #[.int .i64 id, .slice ad' (afterL id L x).length cap']) ∧ FOwn ptEnc 11 113 w.heap.size w' (.slice ad' (afterL id L x).length cap') (afterL id L x) ∧ Below w.heap.size w w' := by
 unfold goes at hg
 simp only [Bool.and_eq_true, decide_eq_true_eq] at hg
 obtain ⟨hb, hx, hq⟩ := hg
 have hl := (bOk_all hb).2.1.2
 obtain ⟨kq, hkq⟩ : ∃ kq : Nat, x.q = (kq : Int) := ⟨x.q.toNat, by omega⟩
 have hkl : kq < L.length := by omega
 have hto : x.q.toNat = kq := by omega
 rcases inOk_k hx with e | e | e
 ·
  have ha : arrV x = .iface 148 (.agg #[.int .i64 (kq : Int), .int .i64 x.r, .int .i64 x.c, .int .i64 x.b, .int .i64 x.p, .int .i64 x.h]) := by unfold arrV; rw [if_pos e, hkq]
  have hm : afterL id L x = decideR id (L.set kq (claimR (L.getD kq Pt.nil) x.r x.c x.b x.p x.h)) := by unfold afterL; rw [if_pos e, hto]
  rw [ha, hm]
  exact takenC id ad cap L kq x.r x.c x.b x.p x.h w hv hl hn hkl
 ·
  have ha : arrV x = .iface 150 (.agg #[]) := by unfold arrV; rw [if_neg (by omega), if_pos e]
  have hm : afterL id L x = decideR id (L.map tickP) := by unfold afterL; rw [if_neg (by omega), if_pos e]
  rw [ha, hm]
  exact takenT id ad cap L w hv hl hn hb
 ·
  have ha : arrV x = .iface 152 (.agg #[.int .i64 (kq : Int), .bool x.up]) := by unfold arrV; rw [if_neg (by omega), if_neg (by omega), if_pos e, hkq]
  have hm : afterL id L x = if (L.getD kq Pt.nil).up = x.up then L else decideR id (L.set kq (linkP x.up)) := by unfold afterL; rw [if_neg (by omega), if_neg (by omega), hto]
  rw [ha, hm]
  exact takenL id ad cap L kq x.up w hv hl hn hkl
set_option maxHeartbeats 8000000 in
theorem reactI (id : Int) (ad : Option Addr) (cap : Nat) (L : List Pt) (x : Ik) (w : World) (hv : FView ptEnc w ad L) (hl : L.length ≤ 1048576) (hn : ad = none → cap = 0) :
  Calls Tryz.prog 69 #[.agg #[.int .i64 id, .slice ad L.length cap], .agg #[.int .i64 x.k, .int .i64 x.q, .int .i64 x.r, .int .i64 x.c, .int .i64 x.b, .int .i64 x.p, .int .i64 x.h, .bool x.up]] w fun e w' => ∃ ad' cap' ao co, e = .returned (.tuple #[.agg #[.int .i64 id, .slice ad' (reactL id L x).length cap'], .slice ao (reactO id L x).length co]) ∧ FOwn ptEnc 11 113 w.heap.size w' (.slice ad' (reactL id L x).length cap') (reactL id L x) ∧ FOwn ouEnc 8 92 w.heap.size w' (.slice ao (reactO id L x).length co) (reactO id L x) ∧ (∀ g_, (Value.slice ao (reactO id L x).length co).ownBlock = some g_ → (Value.slice ad' (reactL id L x).length cap').ownBlock ≠ some g_) ∧ Below w.heap.size w w' := by
 obtain ⟨i0, hi, hz0, hz1, hz2⟩ := info_parts ouInfo
 have hB := hv.lt ptEnc_len (by omega)
 obtain ⟨y, hy⟩ := mk_ (((w.alloc (Obj.cells #[.int .i64 id, .slice ad L.length cap] 69)).alloc (Obj.cells #[.int .i64 x.k, .int .i64 x.q, .int .i64 x.r, .int .i64 x.c, .int .i64 x.b, .int .i64 x.p, .int .i64 x.h, .bool x.up] 80)).alloc (Obj.cells #[.int .i64 0, .slice none 0 0] 69))
 have B0 : Below w.heap.size w y := by rw [hy]; exact (((Below.refl _ _).alloc (Nat.le_refl _) _).alloc (by simp) _).alloc (by simp; omega) _
 have A0 : BrAt y w.heap.size id (.slice ad L.length cap) := by rw [hy]; constructor <;> simp [go_sem]
 have X0 : InAt y (w.heap.size + 1) x := by rw [hy]; constructor <;> simp [go_sem]
 have R0 : BBox y (w.heap.size + 1 + 1) 0 (.slice none 0 0) := by rw [hy]; refine ⟨?_, fun i => ?_⟩; constructor <;> simp [go_sem]; simp [go_sem]
 have S0 := R0.lt
 have hv1 := hv.below B0 hB
 have hB1 := hv1.lt ptEnc_len (by omega)
 clear hv hB
 obtain ⟨D, hD⟩ : ∃ D, reactL id L x = D := ⟨_, rfl⟩
 obtain ⟨OO, hO⟩ : ∃ D, reactO id L x = D := ⟨_, rfl⟩
 rw [hD, hO]
 replace hD : Hid _ := hD
 replace hO : Hid _ := hO
 go_enter Tryz.func69, Tryz.ntmps69
 go_upto_region 1 with fail
 rw [← hy]
 clear hy
 have BY := B0
 have cc_ := A0
 obtain ⟨a0, a1⟩ := cc_
 go_wp2_with fail
 go_at_call 90
 clear a0 a1
 refine (bOkI id ad cap L y hv1 hl).mono ?_
 rintro e Y1 ⟨rfl, k1⟩
 have z1 := k1.size
 have A0 := A0.below k1 A0.lt
 have X0 := X0.below k1 X0.lt
 have R0 := R0.below k1 R0.lt
 have hv1 := hv1.below k1 (hv1.lt ptEnc_len (by omega))
 have BY := BY.trans (k1.mono BY.size)
 clear k1
 cases hb : bOk id L with
 | false =>
  have hgo : goes id L x = false := by unfold goes; rw [hb]; rfl
  have hN : Hid (D = L ∧ OO = []) := by
   unfold Hid
   rw [← hD.out, ← hO.out]
   unfold reactL reactO
   rw [hgo]
   exact ⟨rfl, rfl⟩
  clear hD hO
  have cc_ := A0
  obtain ⟨a0, a1⟩ := cc_
  go_wp2_with fail
  go_at_call 93
  clear a0 a1
  have z9 := BY.size
  refine (copI id ad cap L Y1 hv1 hl hn).mono ?_
  rintro e w9 ⟨adN, capN, rfl, oN, k9⟩
  have S9 : w.heap.size + 1 + 1 < Y1.heap.size := R0.lt
  have R0 := R0.below k9 R0.lt
  have BY := BY.trans (k9.mono BY.size)
  have RP := R0.put id (.slice adN L.length capN)
  obtain ⟨⟨r0, r1⟩, rf⟩ := R0
  have BZ := (BY.setCell (p := ⟨w.heap.size + 1 + 1, 0, none⟩) (by show _ ≤ w.heap.size + 1 + 1; omega) (.int .i64 id)).setCell (p := ⟨w.heap.size + 1 + 1, 1, none⟩) (by show _ ≤ w.heap.size + 1 + 1; omega) (.slice adN L.length capN)
  have OZ : FOwn ptEnc 11 113 w.heap.size ((w9.setCell ⟨w.heap.size + 1 + 1, 0, none⟩ (.int .i64 id)).setCell ⟨w.heap.size + 1 + 1, 1, none⟩ (.slice adN L.length capN)) (.slice adN L.length capN) L := (oN.base (by omega)).keep fun g' e => by
   have := (oN.lt g' e).1
   rw [Below.heap_setCell _ _ _ _ (by show g' ≠ w.heap.size + 1 + 1; omega), Below.heap_setCell _ _ _ _ (by show g' ≠ w.heap.size + 1 + 1; omega)]
  obtain ⟨⟨p0, p1⟩, _⟩ := RP
  go_wp2
  obtain ⟨rfl, rfl⟩ := hN.out
  refine bodyPost_ret (v := .tuple #[.agg #[.int .i64 id, .slice adN D.length capN], .slice none 0 0]) (by simp [results, Tryz.results69, go_sem, *]) rfl ⟨adN, capN, none, 0, rfl, OZ, FOwn.nil, fun g_ e => by simp [Value.ownBlock] at e, BZ⟩
 | true =>
  have hl4 := (bOk_all hb).2.1
  have X1 := X0
  obtain ⟨x0, x1, x2, x3, x4, x5, x6, x7⟩ := X1
  go_wp2_with fail
  go_at_call 91
  clear x0 x1 x2 x3 x4 x5 x6 x7
  refine (inOkI x Y1).mono ?_
  rintro e Y2 ⟨rfl, k2⟩
  have z2 := k2.size
  have A0 := A0.below k2 A0.lt
  have X0 := X0.below k2 X0.lt
  have R0 := R0.below k2 R0.lt
  have hv1 := hv1.below k2 (hv1.lt ptEnc_len (by omega))
  have BY := BY.trans (k2.mono BY.size)
  clear k2
  cases hx : inOk x with
  | false =>
   have hgo : goes id L x = false := by unfold goes; rw [hb, hx]; rfl
   have hN : Hid (D = L ∧ OO = []) := by
    unfold Hid
    rw [← hD.out, ← hO.out]
    unfold reactL reactO
    rw [hgo]
    exact ⟨rfl, rfl⟩
   clear hD hO
   have cc_ := A0
   obtain ⟨a0, a1⟩ := cc_
   go_wp2_with fail
   go_at_call 93
   clear a0 a1
   have z9 := BY.size
   refine (copI id ad cap L Y2 hv1 hl hn).mono ?_
   rintro e w9 ⟨adN, capN, rfl, oN, k9⟩
   have S9 : w.heap.size + 1 + 1 < Y2.heap.size := R0.lt
   have R0 := R0.below k9 R0.lt
   have BY := BY.trans (k9.mono BY.size)
   have RP := R0.put id (.slice adN L.length capN)
   obtain ⟨⟨r0, r1⟩, rf⟩ := R0
   have BZ := (BY.setCell (p := ⟨w.heap.size + 1 + 1, 0, none⟩) (by show _ ≤ w.heap.size + 1 + 1; omega) (.int .i64 id)).setCell (p := ⟨w.heap.size + 1 + 1, 1, none⟩) (by show _ ≤ w.heap.size + 1 + 1; omega) (.slice adN L.length capN)
   have OZ : FOwn ptEnc 11 113 w.heap.size ((w9.setCell ⟨w.heap.size + 1 + 1, 0, none⟩ (.int .i64 id)).setCell ⟨w.heap.size + 1 + 1, 1, none⟩ (.slice adN L.length capN)) (.slice adN L.length capN) L := (oN.base (by omega)).keep fun g' e => by
    have := (oN.lt g' e).1
    rw [Below.heap_setCell _ _ _ _ (by show g' ≠ w.heap.size + 1 + 1; omega), Below.heap_setCell _ _ _ _ (by show g' ≠ w.heap.size + 1 + 1; omega)]
   obtain ⟨⟨p0, p1⟩, _⟩ := RP
   go_wp2
   obtain ⟨rfl, rfl⟩ := hN.out
   refine bodyPost_ret (v := .tuple #[.agg #[.int .i64 id, .slice adN D.length capN], .slice none 0 0]) (by simp [results, Tryz.results69, go_sem, *]) rfl ⟨adN, capN, none, 0, rfl, OZ, FOwn.nil, fun g_ e => by simp [Value.ownBlock] at e, BZ⟩
  | true =>
   have X1 := X0
   obtain ⟨x0, x1, x2, x3, x4, x5, x6, x7⟩ := X1
   have cc_ := A0
   obtain ⟨a0, a1⟩ := cc_
   go_wp2_with fail
   go_at_call 92
   clear x0 x1 x2 x3 x4 x5 x6 x7 a0 a1
   refine (portIsI id ad cap L x.q Y2 hl).mono ?_
   rintro e Y3 ⟨rfl, k3⟩
   have z3 := k3.size
   have A0 := A0.below k3 A0.lt
   have X0 := X0.below k3 X0.lt
   have R0 := R0.below k3 R0.lt
   have hv1 := hv1.below k3 (hv1.lt ptEnc_len (by omega))
   have BY := BY.trans (k3.mono BY.size)
   clear k3
   cases hq : decide (0 ≤ x.q ∧ x.q < (L.length : Int)) with
   | false =>
    have hgo : goes id L x = false := by unfold goes; rw [hb, hx, hq]; rfl
    have hN : Hid (D = L ∧ OO = []) := by
     unfold Hid
     rw [← hD.out, ← hO.out]
     unfold reactL reactO
     rw [hgo]
     exact ⟨rfl, rfl⟩
    clear hD hO
    have cc_ := A0
    obtain ⟨a0, a1⟩ := cc_
    go_wp2_with fail
    go_at_call 93
    clear a0 a1
    have z9 := BY.size
    refine (copI id ad cap L Y3 hv1 hl hn).mono ?_
    rintro e w9 ⟨adN, capN, rfl, oN, k9⟩
    have S9 : w.heap.size + 1 + 1 < Y3.heap.size := R0.lt
    have R0 := R0.below k9 R0.lt
    have BY := BY.trans (k9.mono BY.size)
    have RP := R0.put id (.slice adN L.length capN)
    obtain ⟨⟨r0, r1⟩, rf⟩ := R0
    have BZ := (BY.setCell (p := ⟨w.heap.size + 1 + 1, 0, none⟩) (by show _ ≤ w.heap.size + 1 + 1; omega) (.int .i64 id)).setCell (p := ⟨w.heap.size + 1 + 1, 1, none⟩) (by show _ ≤ w.heap.size + 1 + 1; omega) (.slice adN L.length capN)
    have OZ : FOwn ptEnc 11 113 w.heap.size ((w9.setCell ⟨w.heap.size + 1 + 1, 0, none⟩ (.int .i64 id)).setCell ⟨w.heap.size + 1 + 1, 1, none⟩ (.slice adN L.length capN)) (.slice adN L.length capN) L := (oN.base (by omega)).keep fun g' e => by
     have := (oN.lt g' e).1
     rw [Below.heap_setCell _ _ _ _ (by show g' ≠ w.heap.size + 1 + 1; omega), Below.heap_setCell _ _ _ _ (by show g' ≠ w.heap.size + 1 + 1; omega)]
    obtain ⟨⟨p0, p1⟩, _⟩ := RP
    go_wp2
    obtain ⟨rfl, rfl⟩ := hN.out
    refine bodyPost_ret (v := .tuple #[.agg #[.int .i64 id, .slice adN D.length capN], .slice none 0 0]) (by simp [results, Tryz.results69, go_sem, *]) rfl ⟨adN, capN, none, 0, rfl, OZ, FOwn.nil, fun g_ e => by simp [Value.ownBlock] at e, BZ⟩
   | true =>
    have hgo : goes id L x = true := by unfold goes; rw [hb, hx, hq]; rfl
    obtain ⟨T, hT⟩ : ∃ T, afterL id L x = T := ⟨_, rfl⟩
    have hTl : T.length = L.length := by rw [← hT]; exact afterL_len id L x
    have hD2 : Hid (D = T) := by unfold Hid; rw [← hD.out, ← hT]; unfold reactL; rw [hgo]; rfl
    have hO2 : Hid (OO = gatesTo L T T.length ++ (if x.k = 2 then toldTo id T T.length else [])) := by unfold Hid; rw [← hO.out, hTl, ← hT]; unfold reactO; rw [hgo]; rfl
    have hT4 : T.length ≤ 4 := by omega
    replace hTl : Hid _ := hTl
    replace hT : Hid _ := hT
    clear hD hO hb hx hq
    go_upto_region 3 with fail
    refine join_region (fun l l' W' => ∃ (P : Nat) (aT : Option Addr) (cT : Nat) (us : List Value), us.length = 4 ∧ l' = l.take 6 ++ (.pointer (some ⟨P, 0, none⟩) :: (l.drop 7).take 18) ++ us ++ l.drop 29 ∧ BBox W' P id (.slice aT T.length cT) ∧ FOwn ptEnc 11 113 Y3.heap.size W' (.slice aT T.length cT) T ∧ (∀ g_, (Value.slice aT T.length cT).ownBlock = some g_ → g_ ≠ P) ∧ Y3.heap.size ≤ P ∧ Below Y3.heap.size Y3 W') ?_ ?_
    rotate_left
    ·
     intro K2 hT3
     refine wp_region_held (S := fun Y => Below Y3.heap.size Y3 Y) (by kernel_rfl) ?_
     change wpAnyH _ _ _ _ _ _ _ _ (World.drew _)
     have hb0 : Below Y3.heap.size Y3 Y3.drew := (Below.refl _ _).drew
     obtain ⟨u0, hy0⟩ := mk_ Y3.drew
     rw [← hy0] at hb0 ⊢
     clear hy0
     refine tw 0 25 (.agg #[.int .i64 id, .slice ad L.length cap]) ?_ (hy := by intro Y hSw; obtain ⟨X0_, X1_⟩ := A0.below hSw A0.lt; go_simp)
     refine tw 1 26 (.agg #[.int .i64 x.k, .int .i64 x.q, .int .i64 x.r, .int .i64 x.c, .int .i64 x.b, .int .i64 x.p, .int .i64 x.h, .bool x.up]) ?_ (hy := by intro Y hSw; obtain ⟨Z0, Z1, Z2, Z3, Z4, Z5, Z6, Z7⟩ := X0.below hSw X0.lt; go_simp)
     refine wpAnyH_all (rs := [2, 4]) (by kernel_rfl) (by simp) ?_
     intro i hi; rcases (by simpa using hi : i = 2 ∨ i = 4) with rfl | rfl
     ·
      refine wpOp_step rfl (fun K hK => ?_)
      rw [if_pos (by kernel_rfl)]
      go_simp
      go_at_call 95
      refine (arrI x u0).mono ?_
      rintro e u1 ⟨rfl, kq⟩
      have hb1 : Below Y3.heap.size Y3 u1 := hb0.trans (kq.mono hb0.size)
      clear kq
      refine hK _ _ ⟨hb1, ?_⟩
      clear hK K hi
      refine wpAnyH_all (rs := [3, 4]) (by kernel_rfl) (by simp) ?_
      intro i hi; rcases (by simpa using hi : i = 3 ∨ i = 4) with rfl | rfl
      ·
       refine wpOp_step rfl (fun K hK => ?_)
       rw [if_pos (by kernel_rfl)]
       go_simp
       go_at_call 94
       refine (takenI id ad cap L x u1 (hv1.below hb1 (hv1.lt ptEnc_len (by omega))) hn hgo).mono ?_
       rintro e u2 ⟨aT, cT, rfl, oT, kq⟩
       rw [hT.out] at oT ⊢
       have bT : Y3.heap.size ≤ u1.heap.size := hb1.size
       have hb2 : Below Y3.heap.size Y3 u2 := hb1.trans (kq.mono hb1.size)
       clear kq
       refine hK _ _ ⟨hb2, ?_⟩
       clear hK K hi
       refine wpAnyH_all (rs := [4]) (by kernel_rfl) (by simp) ?_
       intro i hi; obtain rfl : i = 4 := by simpa using hi
       refine wpOp_step rfl (fun K hK => ?_)
       rw [if_pos (by kernel_rfl)]
       go_simp
       obtain ⟨u3, hy⟩ := mk_ (u2.alloc (Obj.cells #[.int .i64 0, .slice none 0 0] 69))
       have kq : Below u2.heap.size u2 u3 := by rw [hy]; exact below_new _
       have joT : ∀ g_, (Value.slice aT T.length cT).ownBlock = some g_ → g_ ≠ u2.heap.size := fun g_ e => by have h1 := (oT.lt g_ e).2; omega
       have oT := oT.later kq
       have FP : BBox u3 u2.heap.size 0 (.slice none 0 0) := by rw [hy]; exact BBox.new u2 _ _ _
       have pa : Y3.heap.size ≤ u2.heap.size := hb2.size
       have hb3 : Below Y3.heap.size Y3 u3 := hb2.trans (kq.mono hb2.size)
       rw [← hy]
       clear hy kq
       refine hK _ _ ⟨hb3, ?_⟩
       clear hK K hi
       refine wpAnyH_all (rs := [5]) (by kernel_rfl) (by simp) ?_
       intro i hi; obtain rfl : i = 5 := by simpa using hi
       refine wpOp_step rfl (fun K hK => ?_)
       rw [if_pos (by kernel_rfl)]
       have FQ := FP
       obtain ⟨⟨t0, t1⟩, tf⟩ := FP
       go_simp
       clear t0 t1 tf
       obtain ⟨uf, huf⟩ := mk_ ((u3.setCell ⟨u2.heap.size, 0, none⟩ (.int .i64 id)).setCell ⟨u2.heap.size, 1, none⟩ (.slice aT T.length cT))
       have FE : BBox uf (u2.heap.size) id (.slice aT T.length cT) := by rw [huf]; exact FQ.put _ _
       have hbf : Below Y3.heap.size Y3 uf := by rw [huf]; exact (hb3.setCell (p := ⟨u2.heap.size, 0, none⟩) pa _).setCell (p := ⟨u2.heap.size, 1, none⟩) pa _
       have oT := oT.keep (w' := uf) (fun g_ e => by rw [huf, Below.heap_setCell _ _ _ _ (by show g_ ≠ u2.heap.size; exact joT g_ e), Below.heap_setCell _ _ _ _ (by show g_ ≠ u2.heap.size; exact joT g_ e)])
       rw [← huf]
       clear huf FQ
       refine hK _ _ ⟨hbf, ?_⟩
       clear hK K hi
       refine wpAnyH_done (by kernel_rfl) ?_ _
       exact hT3.out _ _ ⟨u2.heap.size, aT, cT, [(.agg #[.int .i64 id, .slice ad L.length cap] : Value), (.agg #[.int .i64 x.k, .int .i64 x.q, .int .i64 x.r, .int .i64 x.c, .int .i64 x.b, .int .i64 x.p, .int .i64 x.h, .bool x.up]), arrV x, .agg #[.int .i64 id, .slice aT T.length cT]], rfl, by kernel_rfl, FE, oT.base bT, joT, pa, hbf⟩
      ·
       refine wpOp_step rfl (fun K hK => ?_)
       rw [if_pos (by kernel_rfl)]
       go_simp
       obtain ⟨u2, hy⟩ := mk_ (u1.alloc (Obj.cells #[.int .i64 0, .slice none 0 0] 69))
       have kq : Below u1.heap.size u1 u2 := by rw [hy]; exact below_new _
       have FP : BBox u2 u1.heap.size 0 (.slice none 0 0) := by rw [hy]; exact BBox.new u1 _ _ _
       have pa : Y3.heap.size ≤ u1.heap.size := hb1.size
       have hb2 : Below Y3.heap.size Y3 u2 := hb1.trans (kq.mono hb1.size)
       rw [← hy]
       clear hy kq
       refine hK _ _ ⟨hb2, ?_⟩
       clear hK K hi
       refine wpAnyH_all (rs := [3]) (by kernel_rfl) (by simp) ?_
       intro i hi; obtain rfl : i = 3 := by simpa using hi
       refine wpOp_step rfl (fun K hK => ?_)
       rw [if_pos (by kernel_rfl)]
       go_simp
       go_at_call 94
       refine (takenI id ad cap L x u2 (hv1.below hb2 (hv1.lt ptEnc_len (by omega))) hn hgo).mono ?_
       rintro e u3 ⟨aT, cT, rfl, oT, kq⟩
       rw [hT.out] at oT ⊢
       have bT : Y3.heap.size ≤ u2.heap.size := hb2.size
       have joT : ∀ g_, (Value.slice aT T.length cT).ownBlock = some g_ → g_ ≠ u1.heap.size := fun g_ e => by have h1 := (oT.lt g_ e).1; have h2 := FP.lt; omega
       have FP := FP.below kq FP.lt
       have hb3 : Below Y3.heap.size Y3 u3 := hb2.trans (kq.mono hb2.size)
       clear kq
       refine hK _ _ ⟨hb3, ?_⟩
       clear hK K hi
       refine wpAnyH_all (rs := [5]) (by kernel_rfl) (by simp) ?_
       intro i hi; obtain rfl : i = 5 := by simpa using hi
       refine wpOp_step rfl (fun K hK => ?_)
       rw [if_pos (by kernel_rfl)]
       have FQ := FP
       obtain ⟨⟨t0, t1⟩, tf⟩ := FP
       go_simp
       clear t0 t1 tf
       obtain ⟨uf, huf⟩ := mk_ ((u3.setCell ⟨u1.heap.size, 0, none⟩ (.int .i64 id)).setCell ⟨u1.heap.size, 1, none⟩ (.slice aT T.length cT))
       have FE : BBox uf (u1.heap.size) id (.slice aT T.length cT) := by rw [huf]; exact FQ.put _ _
       have hbf : Below Y3.heap.size Y3 uf := by rw [huf]; exact (hb3.setCell (p := ⟨u1.heap.size, 0, none⟩) pa _).setCell (p := ⟨u1.heap.size, 1, none⟩) pa _
       have oT := oT.keep (w' := uf) (fun g_ e => by rw [huf, Below.heap_setCell _ _ _ _ (by show g_ ≠ u1.heap.size; exact joT g_ e), Below.heap_setCell _ _ _ _ (by show g_ ≠ u1.heap.size; exact joT g_ e)])
       rw [← huf]
       clear huf FQ
       refine hK _ _ ⟨hbf, ?_⟩
       clear hK K hi
       refine wpAnyH_done (by kernel_rfl) ?_ _
       exact hT3.out _ _ ⟨u1.heap.size, aT, cT, [(.agg #[.int .i64 id, .slice ad L.length cap] : Value), (.agg #[.int .i64 x.k, .int .i64 x.q, .int .i64 x.r, .int .i64 x.c, .int .i64 x.b, .int .i64 x.p, .int .i64 x.h, .bool x.up]), arrV x, .agg #[.int .i64 id, .slice aT T.length cT]], rfl, by kernel_rfl, FE, oT.base bT, joT, pa, hbf⟩
     ·
      refine wpOp_step rfl (fun K hK => ?_)
      rw [if_pos (by kernel_rfl)]
      go_simp
      obtain ⟨u1, hy⟩ := mk_ (u0.alloc (Obj.cells #[.int .i64 0, .slice none 0 0] 69))
      have kq : Below u0.heap.size u0 u1 := by rw [hy]; exact below_new _
      have FP : BBox u1 u0.heap.size 0 (.slice none 0 0) := by rw [hy]; exact BBox.new u0 _ _ _
      have pa : Y3.heap.size ≤ u0.heap.size := hb0.size
      have hb1 : Below Y3.heap.size Y3 u1 := hb0.trans (kq.mono hb0.size)
      rw [← hy]
      clear hy kq
      refine hK _ _ ⟨hb1, ?_⟩
      clear hK K hi
      refine wpAnyH_all (rs := [2]) (by kernel_rfl) (by simp) ?_
      intro i hi; obtain rfl : i = 2 := by simpa using hi
      refine wpOp_step rfl (fun K hK => ?_)
      rw [if_pos (by kernel_rfl)]
      go_simp
      go_at_call 95
      refine (arrI x u1).mono ?_
      rintro e u2 ⟨rfl, kq⟩
      have FP := FP.below kq FP.lt
      have hb2 : Below Y3.heap.size Y3 u2 := hb1.trans (kq.mono hb1.size)
      clear kq
      refine hK _ _ ⟨hb2, ?_⟩
      clear hK K hi
      refine wpAnyH_all (rs := [3]) (by kernel_rfl) (by simp) ?_
      intro i hi; obtain rfl : i = 3 := by simpa using hi
      refine wpOp_step rfl (fun K hK => ?_)
      rw [if_pos (by kernel_rfl)]
      go_simp
      go_at_call 94
      refine (takenI id ad cap L x u2 (hv1.below hb2 (hv1.lt ptEnc_len (by omega))) hn hgo).mono ?_
      rintro e u3 ⟨aT, cT, rfl, oT, kq⟩
      rw [hT.out] at oT ⊢
      have bT : Y3.heap.size ≤ u2.heap.size := hb2.size
      have joT : ∀ g_, (Value.slice aT T.length cT).ownBlock = some g_ → g_ ≠ u0.heap.size := fun g_ e => by have h1 := (oT.lt g_ e).1; have h2 := FP.lt; omega
      have FP := FP.below kq FP.lt
      have hb3 : Below Y3.heap.size Y3 u3 := hb2.trans (kq.mono hb2.size)
      clear kq
      refine hK _ _ ⟨hb3, ?_⟩
      clear hK K hi
      refine wpAnyH_all (rs := [5]) (by kernel_rfl) (by simp) ?_
      intro i hi; obtain rfl : i = 5 := by simpa using hi
      refine wpOp_step rfl (fun K hK => ?_)
      rw [if_pos (by kernel_rfl)]
      have FQ := FP
      obtain ⟨⟨t0, t1⟩, tf⟩ := FP
      go_simp
      clear t0 t1 tf
      obtain ⟨uf, huf⟩ := mk_ ((u3.setCell ⟨u0.heap.size, 0, none⟩ (.int .i64 id)).setCell ⟨u0.heap.size, 1, none⟩ (.slice aT T.length cT))
      have FE : BBox uf (u0.heap.size) id (.slice aT T.length cT) := by rw [huf]; exact FQ.put _ _
      have hbf : Below Y3.heap.size Y3 uf := by rw [huf]; exact (hb3.setCell (p := ⟨u0.heap.size, 0, none⟩) pa _).setCell (p := ⟨u0.heap.size, 1, none⟩) pa _
      have oT := oT.keep (w' := uf) (fun g_ e => by rw [huf, Below.heap_setCell _ _ _ _ (by show g_ ≠ u0.heap.size; exact joT g_ e), Below.heap_setCell _ _ _ _ (by show g_ ≠ u0.heap.size; exact joT g_ e)])
      rw [← huf]
      clear huf FQ
      refine hK _ _ ⟨hbf, ?_⟩
      clear hK K hi
      refine wpAnyH_done (by kernel_rfl) ?_ _
      exact hT3.out _ _ ⟨u0.heap.size, aT, cT, [(.agg #[.int .i64 id, .slice ad L.length cap] : Value), (.agg #[.int .i64 x.k, .int .i64 x.q, .int .i64 x.r, .int .i64 x.c, .int .i64 x.b, .int .i64 x.p, .int .i64 x.h, .bool x.up]), arrV x, .agg #[.int .i64 id, .slice aT T.length cT]], rfl, by kernel_rfl, FE, oT.base bT, joT, pa, hbf⟩
    rintro l' Y4 ⟨P, aT, cT, us, hul, rfl, NP, oT, jT, pT, k4⟩
    obtain ⟨u25, us, rfl⟩ : ∃ a b, us = a :: b := List.exists_cons_of_length_eq_add_one hul
    replace hul := Nat.succ.inj hul
    obtain ⟨u26, us, rfl⟩ : ∃ a b, us = a :: b := List.exists_cons_of_length_eq_add_one hul
    replace hul := Nat.succ.inj hul
    obtain ⟨u27, us, rfl⟩ : ∃ a b, us = a :: b := List.exists_cons_of_length_eq_add_one hul
    replace hul := Nat.succ.inj hul
    obtain ⟨u28, us, rfl⟩ : ∃ a b, us = a :: b := List.exists_cons_of_length_eq_add_one hul
    replace hul := Nat.succ.inj hul
    obtain rfl : us = [] := List.eq_nil_of_length_eq_zero hul
    clear hul
    simp only [List.take, List.drop, List.cons_append, List.nil_append]
    have z4 := k4.size
    have A0 := A0.below k4 A0.lt
    have X0 := X0.below k4 X0.lt
    have R0 := R0.below k4 R0.lt
    have hv1 := hv1.below k4 (hv1.lt ptEnc_len (by omega))
    have BY := BY.trans (k4.mono BY.size)
    clear k4
    have vT : FView ptEnc Y4 aT T := oT.view.2
    have cc_ := A0
    obtain ⟨a0, a1⟩ := cc_
    obtain ⟨⟨n0, n1⟩, nf⟩ := NP
    have NP : BrAt Y4 P id (.slice aT T.length cT) := ⟨n0, n1⟩
    go_wp2_with fail
    go_at_call 96
    clear a0 a1 n0 n1 nf
    refine (gatesI id id ad aT cap cT L T Y4 hv1 vT hTl.out.symm hT4).mono ?_
    rintro e Y5 ⟨aG, cG, rfl, oG, k5⟩
    have jG : ∀ g_, (Value.slice aG (gatesTo L T T.length).length cG).ownBlock = some g_ → (Value.slice aT T.length cT).ownBlock ≠ some g_ := fun g_ e e2 => by have h1 := (oG.lt g_ e).1; have h2 := (oT.lt g_ e2).2; omega
    have z5 := k5.size
    have NPlt : P < Y4.heap.size := NP.lt
    have S5 := oT.lt
    have NP := NP.below k5 NP.lt
    have oT := oT.later k5
    have A0 := A0.below k5 A0.lt
    have X0 := X0.below k5 X0.lt
    have R0 := R0.below k5 R0.lt
    have hv1 := hv1.below k5 (hv1.lt ptEnc_len (by omega))
    have BY := BY.trans (k5.mono BY.size)
    clear k5
    have vT : FView ptEnc Y5 aT T := oT.view.2
    have gl := gates_len L T T.length
    obtain ⟨G, hG⟩ : ∃ G, gatesTo L T T.length = G := ⟨_, rfl⟩
    rw [hG] at oG jG gl hO2 ⊢
    replace hO2 : Hid _ := hO2
    clear hG
    have cc_ := X0
    obtain ⟨x0, x1, x2, x3, x4, x5, x6, x7⟩ := cc_
    by_cases hk : x.k = 2
    ·
     have dk : (x.k == 2) = true := by simpa using hk
     have hO3 : Hid (OO = G ++ toldTo id T T.length) := by unfold Hid; rw [hO2.out, if_pos hk]
     replace hk : Hid _ := hk
     clear hO2
     go_upto_region 6 with fail
     clear x0 x1 x2 x3 x4 x5 x6 x7
     have cc_ := NP
     obtain ⟨n0, n1⟩ := cc_
     go_wp2_with fail
     go_at_call 97
     clear n0 n1
     refine (toldI id aT cT T Y5 vT hT4).mono ?_
     rintro e Y6 ⟨aC, cC, rfl, oC, k6⟩
     have z6 := k6.size
     have NP := NP.below k6 NP.lt
     have oT := oT.later k6
     have oG := oG.later k6
     have A0 := A0.below k6 A0.lt
     have X0 := X0.below k6 X0.lt
     have R0 := R0.below k6 R0.lt
     have hv1 := hv1.below k6 (hv1.lt ptEnc_len (by omega))
     have BY := BY.trans (k6.mono BY.size)
     clear k6
     have tl := told_len id T T.length
     obtain ⟨C, hC⟩ : ∃ C, toldTo id T T.length = C := ⟨_, rfl⟩
     rw [hC] at oC tl hO3 ⊢
     replace hO3 : Hid _ := hO3
     clear hC
     have hcn := oC.capn
     have vC : FView ouEnc Y6 aC C := oC.view.2
     have bG : Y4.heap.size ≤ Y6.heap.size := by omega
     have sT : ∀ g_, (Value.slice aT T.length cT).ownBlock = some g_ → g_ < Y4.heap.size := fun g_ e => (S5 g_ e).2
     have iG : ∀ g_, (Value.slice aG G.length cG).ownBlock = some g_ → Y4.heap.size ≤ g_ := fun g_ e => (oG.lt g_ e).1
     have pP : P < Y4.heap.size := NPlt
     go_wp2_with (first | (at_builtin; refine fappL ouEnc_len ouEnc_ones rfl _ _ 37 rfl Y4.heap.size 92 i0 (.agg #[.int .i64 0, .int .i64 0, .int .i64 0, .int .i64 0, .int .i64 0, .int .i64 0, .int .i64 0, .bool false]) 64 Tryz.underlying37 hi hz0 hz1 hz2 rfl (by decide) (by decide) (.slice aG G.length cG) G rfl oG aC cC C rfl hcn vC ?q0 bG ?_) | go_in)
     case q0 => omega
     intro vZ Y7 oZ gZ _
     obtain ⟨aZ, cZ, hvz⟩ := oZ.open_
     subst hvz
     have z7 := gZ.size
     have NP := NP.keep (gZ.block _ NP.lt (fun e => by have := iG _ e.symm; omega))
     have R0 := R0.keep (gZ.block _ R0.lt (fun e => by have := iG _ e.symm; have := R0.lt; omega))
     have jZ : ∀ g_, (Value.slice aZ (G ++ C).length cZ).ownBlock = some g_ → (Value.slice aT T.length cT).ownBlock ≠ some g_ := fun g_ e e2 => by have h1 := (oZ.lt g_ e).1; have h2 := sT g_ e2; omega
     have oT := oT.keep (fun g_ e => gZ.block g_ (oT.lt g_ e).2 (fun e2 => by have := iG _ e2.symm; have := sT g_ e; omega))
     have BY := BY.grown gZ BY.size (fun g_ e => by have := iG _ e; omega)
     clear gZ oG oC vC hcn
     obtain ⟨Z, hZ⟩ : ∃ Z, G ++ C = Z := ⟨_, rfl⟩
     rw [hZ] at oZ jZ hO3 ⊢
     replace hO3 : Hid _ := hO3
     clear hZ
     go_upto_region 7 with fail
     have RP := R0.put id (.slice aT T.length cT)
     have S8 : w.heap.size + 1 + 1 < Y7.heap.size := R0.lt
     obtain ⟨⟨r0, r1⟩, rf⟩ := R0
     have BZ := (BY.setCell (p := ⟨w.heap.size + 1 + 1, 0, none⟩) (by show _ ≤ w.heap.size + 1 + 1; omega) (.int .i64 id)).setCell (p := ⟨w.heap.size + 1 + 1, 1, none⟩) (by show _ ≤ w.heap.size + 1 + 1; omega) (.slice aT T.length cT)
     have OZ : FOwn ptEnc 11 113 w.heap.size ((Y7.setCell ⟨w.heap.size + 1 + 1, 0, none⟩ (.int .i64 id)).setCell ⟨w.heap.size + 1 + 1, 1, none⟩ (.slice aT T.length cT)) (.slice aT T.length cT) T := (oT.base (by omega)).keep fun g' e => by
      have := (oT.lt g' e).1
      rw [Below.heap_setCell _ _ _ _ (by show g' ≠ w.heap.size + 1 + 1; omega), Below.heap_setCell _ _ _ _ (by show g' ≠ w.heap.size + 1 + 1; omega)]
     have OQ : FOwn ouEnc 8 92 w.heap.size ((Y7.setCell ⟨w.heap.size + 1 + 1, 0, none⟩ (.int .i64 id)).setCell ⟨w.heap.size + 1 + 1, 1, none⟩ (.slice aT T.length cT)) (.slice aZ (Z).length cZ) (Z) := (oZ.base (by omega)).keep fun g' e => by
      have := (oZ.lt g' e).1
      rw [Below.heap_setCell _ _ _ _ (by show g' ≠ w.heap.size + 1 + 1; omega), Below.heap_setCell _ _ _ _ (by show g' ≠ w.heap.size + 1 + 1; omega)]
     obtain ⟨⟨p0, p1⟩, _⟩ := RP
     obtain ⟨n0, n1⟩ := NP
     go_wp2
     refine bodyPost_ret (v := .tuple #[.agg #[.int .i64 id, .slice aT T.length cT], .slice aZ (Z).length cZ]) (by simp [results, Tryz.results69, go_sem, *]) rfl ⟨aT, cT, aZ, cZ, by rw [hD2.out, hO3.out], by rw [hD2.out]; exact OZ, by rw [hO3.out]; exact OQ, by rw [hD2.out, hO3.out]; exact jZ, BZ⟩
    ·
     have dk : (x.k == 2) = false := by simpa using hk
     have hO3 : Hid (OO = G) := by unfold Hid; rw [hO2.out, if_neg hk, List.append_nil]
     replace hk : Hid _ := hk
     clear hO2
     go_upto_region 7 with fail
     clear x0 x1 x2 x3 x4 x5 x6 x7
     have RP := R0.put id (.slice aT T.length cT)
     have S8 : w.heap.size + 1 + 1 < Y5.heap.size := R0.lt
     obtain ⟨⟨r0, r1⟩, rf⟩ := R0
     have BZ := (BY.setCell (p := ⟨w.heap.size + 1 + 1, 0, none⟩) (by show _ ≤ w.heap.size + 1 + 1; omega) (.int .i64 id)).setCell (p := ⟨w.heap.size + 1 + 1, 1, none⟩) (by show _ ≤ w.heap.size + 1 + 1; omega) (.slice aT T.length cT)
     have OZ : FOwn ptEnc 11 113 w.heap.size ((Y5.setCell ⟨w.heap.size + 1 + 1, 0, none⟩ (.int .i64 id)).setCell ⟨w.heap.size + 1 + 1, 1, none⟩ (.slice aT T.length cT)) (.slice aT T.length cT) T := (oT.base (by omega)).keep fun g' e => by
      have := (oT.lt g' e).1
      rw [Below.heap_setCell _ _ _ _ (by show g' ≠ w.heap.size + 1 + 1; omega), Below.heap_setCell _ _ _ _ (by show g' ≠ w.heap.size + 1 + 1; omega)]
     have OQ : FOwn ouEnc 8 92 w.heap.size ((Y5.setCell ⟨w.heap.size + 1 + 1, 0, none⟩ (.int .i64 id)).setCell ⟨w.heap.size + 1 + 1, 1, none⟩ (.slice aT T.length cT)) (.slice aG (G).length cG) (G) := (oG.base (by omega)).keep fun g' e => by
      have := (oG.lt g' e).1
      rw [Below.heap_setCell _ _ _ _ (by show g' ≠ w.heap.size + 1 + 1; omega), Below.heap_setCell _ _ _ _ (by show g' ≠ w.heap.size + 1 + 1; omega)]
     obtain ⟨⟨p0, p1⟩, _⟩ := RP
     obtain ⟨n0, n1⟩ := NP
     go_wp2
     refine bodyPost_ret (v := .tuple #[.agg #[.int .i64 id, .slice aT T.length cT], .slice aG (G).length cG]) (by simp [results, Tryz.results69, go_sem, *]) rfl ⟨aT, cT, aG, cG, by rw [hD2.out, hO3.out], by rw [hD2.out]; exact OZ, by rw [hO3.out]; exact OQ, by rw [hD2.out, hO3.out]; exact jG, BZ⟩
end Go.Proofs.YtnpiljegdiconabGreat
