import Derived.Test.YthgcbihhdbpbdaaGreatRKWBr3
namespace Go.Proofs.YthgcbihhdbpbdaaGreat
open Go.ChangeShapes Go.WideShapes Go.ChangeAt Go.RowKit
open Go.ChangeMaps (open_string shut_string)
set_option linter.unusedVariables false
set_option maxRecDepth 100000
set_option maxHeartbeats 32000000
set_option linter.unusedSimpArgs false
open Go.Proofs.Tryz
def oI (o : Option Nat) : Int := match o with
 | none => -1
 | some k => (k : Int)
theorem Gc {id : Int} {L : List Pt} {k : Nat} {h : Pt} (hh : L.getD k Pt.nil = h) (hc : BO id h = false) : CR id L (k + 1) = CR id L k := by
 simp only [CR, hh, hc];cases CR id L k <;> simp
theorem Hj {id : Int} {L : List Pt} {k : Nat} {h : Pt} (hb : CR id L k = none) (hh : L.getD k Pt.nil = h) (hc : BO id h = true) : CR id L (k + 1) = some k := by
 simp only [CR, hb, hh, hc];simp
theorem Hi {id : Int} {L : List Pt} {k j : Nat} {h g : Pt} {t : Bool} (hb : CR id L k = some j) (hh : L.getD k Pt.nil = h) (hg : L.getD j Pt.nil = g) (hc : BO id h = true) (ht : Fr h g = t) : CR id L (k + 1) = if t then some k else some j := by
 simp only [CR, hb, hh, hg, hc, ht];simp
theorem Gh (id : Int) (ad : Option Addr) (cap : Nat) (L : List Pt) (w : World) (hv : AH AJ w ad L) (hl : L.length ≤ 1048576) :
  Calls prog 187 #[.agg #[ji id, .slice ad L.length cap]] w fun e w' => e = .returned (.tuple #[ji (oI (CE id L)), .bool (CE id L).isSome]) ∧ Bw w w' := by
 have hB := hv.lt AK (by omega);obtain ⟨y, hy, B0⟩ := AI w (Obj.cells #[ji id, .slice ad L.length cap] 42);have A0 : Ab y w.heap.size id (.slice ad L.length cap) := by rw [hy]; exact Ab.new w _ _ _
 have S0 := A0.lt;have hv1 := hv.below B0 hB;have hB1 := hv1.lt AK (by omega);obtain ⟨O, hO⟩ := AB (CE id L);rw [← hO];replace hO : Hid _ := hO;go_enter func187, ntmps187
 go_wp2_with fail
 go_at_call 42
 rw [← hy];clear hy hv hB;refine (Fb id ad cap L y hv1 hl).mono ?_;rintro e w1 ⟨rfl, k1⟩;have B1 := AA B0 k1;have A1 := A0.below k1 S0;have S1 := A1.lt;cases hb : Bp id L with
 | false =>
  have hN : Hid (O = none) := by unfold Hid; rw [hO.out]; unfold CE; rw [hb]; rfl
  clear hO;go_wp2
  refine bodyPost_ret (by simp [results, results187, go_sem]; rfl) rfl ⟨by rw [hN.out]; rfl, B1⟩
 | true =>
  have hlen := (CQ hb).2.1;have hall : Hid (∀ i, Ai (L.getD i Pt.nil) = true) := (CQ hb).2.2;have hN : Hid (O = CR id L L.length) := by unfold Hid; rw [hO.out]; unfold CE; rw [hb]; rfl
  have hv2 := hv1.below k1 hB1;have hB2 := hv2.lt AK (by omega);clear hO hv1 hB1 k1 hb A0;obtain ⟨a0, a1⟩ := A1;have A1 : Ab w1 w.heap.size id (.slice ad L.length cap) := ⟨a0, a1⟩;go_wp2
  clear a0 a1;go_loopw [4, 14] (fun q i wr => ∃ k : Nat, k ≤ L.length ∧ i = .int .i64 (k : Int) ∧ q = .int .i64 (oI (CR id L k)) ∧ Below w1.heap.size w1 wr) (fun _ i _ => L.length - (intOf i).toNat)
  case atStart => exact ⟨0, Nat.zero_le _, rfl, rfl, Below.refl _ _⟩
  case round =>
   obtain ⟨k, hk, rfl, rfl, hbr⟩ := hrel;have A2 := A1.below hbr (by omega);obtain ⟨a0, a1⟩ := A2;by_cases hlt : k < L.length
   ·
    obtain ⟨bk, off, rfl, _⟩ := hv2 (by omega);obtain ⟨h, hh⟩ : ∃ h, L.getD k Pt.nil = h := ⟨_, rfl⟩;have hv3 := hv2.below hbr hB2;have hck : BL wr bk (off + k * 11) h := by
     rw [← hh];exact BV (hv3.at_ AK Pt.nil hlt)
    have hok : Ai h = true := by rw [← hh]; exact hall.out k
    have hcu : Hid ((h.up && BO id h) = BO id h) := H7 (id := id) hok;replace hh : Hid _ := hh;obtain ⟨q, hq⟩ := AB (oI (CR id L k));rw [← hq];replace hq : Hid _ := hq;replace hck := hck.all;obtain ⟨y3, hy3, kn⟩ := AI wr (Obj.cells (pc h) 70);have P3 : Bo y3 wr.heap.size h := by rw [hy3]; exact Df wr _ _
    have A3 : Ab y3 w.heap.size id (.slice (some (ja bk off)) L.length cap) := by rw [hy3]; exact Ab.alloc ⟨a0, a1⟩ _
    have Bb := AA hbr kn;have hv3 := hv3.below kn (hv3.lt AK (by omega));have S3 : wr.heap.size < y3.heap.size := P3.lt;have S4 := hbr.size;go_upto_region 7 with fail
    rw [← hy3];clear hck hy3 a0 a1;generalize wr.heap.size = Q at P3 S3 S4 kn ⊢
    clear kn;cases hc : BO id h with
    | false =>
     have hcf : (h.up && BO id h) = false := by rw [hcu.out]; exact hc
     replace hc : Hid _ := hc;refine AR (fun Y => Bw y3 Y) fun u0 hb0 => ?_
     refine tw 0 19 (.pointer (some (ja w.heap.size 0))) ?_;refine tw 1 20 (ji id) ?_ (hy := by intro Y hSw; obtain ⟨X0, X1⟩ := A3.below hSw (by omega); go_simp);refine tw 2 21 (.agg (pc h)) ?_ (hy := by intro Y hSw; have X := (P3.below hSw (by omega)).all; go_simp);refine wpAnyH_all (rs := [3]) (by kernel_rfl) (by simp) ?_;intro i hi; obtain rfl : i = 3 := by simpa using hi
     refine wpOp_step rfl (fun K hK => ?_);rw [if_pos (by kernel_rfl)];go_simp
     go_at_call 205
     refine (F8 id h u0).mono ?_;rintro e u1 ⟨rfl, kq⟩;have hb1 := AA hb0 kq;clear kq;rw [hcf];refine hK _ _ ⟨hb1, ?_⟩;clear hK K hi;refine tw 4 23 (.bool false) ?_;refine ts 5 24 ?_;refine ts 6 25 ?_;refine ts 7 26 ?_;refine ts 8 27 ?_;refine ts 9 28 ?_;refine ts 10 29 ?_;refine ts 11 30 ?_;refine ts 12 31 ?_;refine ts 13 32 ?_;refine ts 14 33 ?_;refine ts 15 34 ?_;refine ts 16 35 ?_;refine ts 17 36 ?_;refine tw 18 37 (.bool false) ?_;refine AM ?_;go_wp2
     go_roundw
     case rel => exact ⟨k + 1, by omega, by go_num, by rw [hq.out, Gc hh.out hc.out], AA Bb hb1⟩
     case measure => simp [intOf]; omega
    | true =>
     have hcf : (h.up && BO id h) = true := by rw [hcu.out]; exact hc
     replace hc : Hid _ := hc;cases hbt : CR id L k with
     | none =>
      obtain rfl : q = -1 := by rw [hq.out, hbt]; rfl
      replace hbt : Hid _ := hbt;clear hq;refine AR (fun Y => Bw y3 Y) fun u0 hb0 => ?_
      refine tw 0 19 (.pointer (some (ja w.heap.size 0))) ?_;refine tw 1 20 (ji id) ?_ (hy := by intro Y hSw; obtain ⟨X0, X1⟩ := A3.below hSw (by omega); go_simp);refine tw 2 21 (.agg (pc h)) ?_ (hy := by intro Y hSw; have X := (P3.below hSw (by omega)).all; go_simp);refine wpAnyH_all (rs := [3]) (by kernel_rfl) (by simp) ?_;intro i hi; obtain rfl : i = 3 := by simpa using hi
      refine wpOp_step rfl (fun K hK => ?_);rw [if_pos (by kernel_rfl)];go_simp
      go_at_call 205
      refine (F8 id h u0).mono ?_;rintro e u1 ⟨rfl, kq⟩;have hb1 := AA hb0 kq;clear kq;rw [hcf];refine hK _ _ ⟨hb1, ?_⟩;clear hK K hi;refine tw 4 23 (.bool true) ?_;refine tw 5 24 (ji (-1)) ?_;refine tw 6 25 (.bool true) ?_ (hy := by intro Y hSw; go_simp);refine tw 7 26 (.bool true) ?_;refine ts 8 27 ?_;refine ts 9 28 ?_;refine ts 10 29 ?_;refine ts 11 30 ?_;refine ts 12 31 ?_;refine ts 13 32 ?_;refine ts 14 33 ?_;refine ts 15 34 ?_;refine ts 16 35 ?_;refine tw 17 36 (.bool true) ?_;refine tw 18 37 (.bool true) ?_;refine AM ?_;go_wp2
      go_roundw
      case rel => exact ⟨k + 1, by omega, by go_num, by rw [Hj hbt.out hh.out hc.out]; rfl, AA Bb hb1⟩
      case measure => simp [intOf]; omega
     | some j =>
      obtain rfl : q = (j : Int) := by rw [hq.out, hbt]; rfl
      have hj := (GI hbt).1;replace hbt : Hid _ := hbt;clear hq;have dj : decide ((j : Int) < 0) = false := decide_eq_false (by omega);have hjl : j < L.length := by omega
      obtain ⟨g, hgg⟩ : ∃ g, L.getD j Pt.nil = g := ⟨_, rfl⟩;have hg : ∀ Y, Bw y3 Y → BL Y bk (off + j * 11) g := fun Y hY => by rw [← hgg]; exact BV ((hv3.below hY (hv3.lt AK (by omega))).at_ AK Pt.nil hjl)
      replace hgg : Hid _ := hgg;obtain ⟨t, ht⟩ : ∃ t, Fr h g = t := ⟨_, rfl⟩;have ht' : CD h.r h.c h.b h.p g.r g.c g.b g.p = t := ht;replace ht : Hid _ := ht;replace ht' : Hid _ := ht';cases t
      focus
       refine AR (fun Y => Bw y3 Y) fun u0 hb0 => ?_
       refine tw 0 19 (.pointer (some (ja w.heap.size 0))) ?_;refine tw 1 20 (ji id) ?_ (hy := by intro Y hSw; obtain ⟨X0, X1⟩ := A3.below hSw (by omega); go_simp);refine tw 2 21 (.agg (pc h)) ?_ (hy := by intro Y hSw; have X := (P3.below hSw (by omega)).all; go_simp);refine wpAnyH_all (rs := [3]) (by kernel_rfl) (by simp) ?_;intro i hi; obtain rfl : i = 3 := by simpa using hi
       refine wpOp_step rfl (fun K hK => ?_);rw [if_pos (by kernel_rfl)];go_simp
       go_at_call 205
       refine (F8 id h u0).mono ?_;rintro e u1 ⟨rfl, kq⟩;have hb1 := AA hb0 kq;clear kq;rw [hcf];refine hK _ _ ⟨hb1, ?_⟩;clear hK K hi;refine tw 4 23 (.bool true) ?_;refine tw 5 24 (ji (j : Int)) ?_;refine tw 6 25 (.bool false) ?_ (hy := by intro Y hSw; go_simp);refine tw 7 26 (.bool false) ?_;refine tw 8 27 (.pointer (some (ja Q 2))) ?_;refine tw 9 28 (.agg #[ji h.r, ji h.c, ji h.b, ji h.p]) ?_ (hy := by intro Y hSw; have X := (P3.below hSw (by omega)).all; go_simp);refine tw 10 29 (.pointer (some (ja w.heap.size 1))) ?_;refine tw 11 30 (.slice (some (ja bk off)) L.length cap) ?_ (hy := by intro Y hSw; obtain ⟨X0, X1⟩ := A3.below hSw (by omega); go_simp);refine tw 12 31 (ji (j : Int)) ?_;refine tw 13 32 (.pointer (some ⟨bk, off + j * 11, none⟩)) ?_ (hy := by intro Y hSw; go_simp; try omega);refine tw 14 33 (.pointer (some ⟨bk, off + j * 11 + 2, none⟩)) ?_;refine tw 15 34 (.agg #[ji g.r, ji g.c, ji g.b, ji g.p]) ?_ (hy := by intro Y hSw; have X := (hg Y hSw).all; go_simp);refine wpAnyH_all (rs := [16]) (by kernel_rfl) (by simp) ?_;intro i hi; obtain rfl : i = 16 := by simpa using hi
       refine wpOp_step rfl (fun K hK => ?_);rw [if_pos (by kernel_rfl)];go_simp
       go_at_call 203
       refine (FU h.r h.c h.b h.p g.r g.c g.b g.p u1).mono ?_;rintro e u2 ⟨rfl, kq⟩;have hb2 := AA hb1 kq;clear kq;rw [ht'.out];refine hK _ _ ⟨hb2, ?_⟩;clear hK K hi;refine tw 17 36 (.bool false) ?_;refine tw 18 37 (.bool false) ?_
      rotate_left;focus
       refine AR (fun Y => Bw y3 Y) fun u0 hb0 => ?_
       refine tw 0 19 (.pointer (some (ja w.heap.size 0))) ?_;refine tw 1 20 (ji id) ?_ (hy := by intro Y hSw; obtain ⟨X0, X1⟩ := A3.below hSw (by omega); go_simp);refine tw 2 21 (.agg (pc h)) ?_ (hy := by intro Y hSw; have X := (P3.below hSw (by omega)).all; go_simp);refine wpAnyH_all (rs := [3]) (by kernel_rfl) (by simp) ?_;intro i hi; obtain rfl : i = 3 := by simpa using hi
       refine wpOp_step rfl (fun K hK => ?_);rw [if_pos (by kernel_rfl)];go_simp
       go_at_call 205
       refine (F8 id h u0).mono ?_;rintro e u1 ⟨rfl, kq⟩;have hb1 := AA hb0 kq;clear kq;rw [hcf];refine hK _ _ ⟨hb1, ?_⟩;clear hK K hi;refine tw 4 23 (.bool true) ?_;refine tw 5 24 (ji (j : Int)) ?_;refine tw 6 25 (.bool false) ?_ (hy := by intro Y hSw; go_simp);refine tw 7 26 (.bool false) ?_;refine tw 8 27 (.pointer (some (ja Q 2))) ?_;refine tw 9 28 (.agg #[ji h.r, ji h.c, ji h.b, ji h.p]) ?_ (hy := by intro Y hSw; have X := (P3.below hSw (by omega)).all; go_simp);refine tw 10 29 (.pointer (some (ja w.heap.size 1))) ?_;refine tw 11 30 (.slice (some (ja bk off)) L.length cap) ?_ (hy := by intro Y hSw; obtain ⟨X0, X1⟩ := A3.below hSw (by omega); go_simp);refine tw 12 31 (ji (j : Int)) ?_;refine tw 13 32 (.pointer (some ⟨bk, off + j * 11, none⟩)) ?_ (hy := by intro Y hSw; go_simp; try omega);refine tw 14 33 (.pointer (some ⟨bk, off + j * 11 + 2, none⟩)) ?_;refine tw 15 34 (.agg #[ji g.r, ji g.c, ji g.b, ji g.p]) ?_ (hy := by intro Y hSw; have X := (hg Y hSw).all; go_simp);refine wpAnyH_all (rs := [16]) (by kernel_rfl) (by simp) ?_;intro i hi; obtain rfl : i = 16 := by simpa using hi
       refine wpOp_step rfl (fun K hK => ?_);rw [if_pos (by kernel_rfl)];go_simp
       go_at_call 203
       refine (FU h.r h.c h.b h.p g.r g.c g.b g.p u1).mono ?_;rintro e u2 ⟨rfl, kq⟩;have hb2 := AA hb1 kq;clear kq;rw [ht'.out];refine hK _ _ ⟨hb2, ?_⟩;clear hK K hi;refine tw 17 36 (.bool true) ?_;refine tw 18 37 (.bool true) ?_
      rotate_left;all_goals
       refine AM ?_;go_wp2
       go_roundw
       case rel => exact ⟨k + 1, by omega, by go_num, by rw [Hi hbt.out hh.out hgg.out hc.out ht.out]; rfl, AA Bb hb2⟩
       case measure => simp [intOf]; omega
   obtain rfl : k = L.length := by omega
   have BF := AA B1 hbr;cases hbt : CR id L L.length with
   | none =>
    have hN2 : Hid (O = none) := by unfold Hid; rw [hN.out, hbt]
    simp only [oI];clear hN hbt;go_wp2
    refine bodyPost_ret (by simp [results, results187, go_sem]; rfl) rfl ⟨by rw [hN2.out]; rfl, BF⟩
   | some j =>
    have hN2 : Hid (O = some j) := by unfold Hid; rw [hN.out, hbt]
    have dj : decide (0 ≤ (j : Int)) = true := decide_eq_true (by omega);simp only [oI];clear hN hbt;go_wp2
    refine bodyPost_ret (by simp [results, results187, go_sem]; rfl) rfl ⟨by rw [hN2.out]; rfl, BF⟩
end Go.Proofs.YthgcbihhdbpbdaaGreat
