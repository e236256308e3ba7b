import Derived.Test.YtjmnaeeknomiaaaGreatDoorRKWBr5
namespace Go.Proofs.YtjmnaeeknomiaaaGreatDoor
open Go.ChangeShapes Go.WideShapes Go.ChangeAt Go.RowKit
open Go.ChangeMaps (open_string shut_string)
set_option linter.unusedVariables false
set_option maxRecDepth 100000
set_option maxHeartbeats 32000000
set_option linter.unusedSimpArgs false
open Go.Proofs.Tryz
theorem Gq (id : Int) (ad : Option Addr) (cap : Nat) (L : List Pt) (w : World) (hv : AI AK w ad L) (hl : L.length ≤ 1048576) :
  Calls prog 116 #[.agg #[ji id, .slice ad L.length cap]] w fun e w' => e = .returned (.tuple #[ji (oI (Cv id L)), .bool (Cv id L).isSome]) ∧ Bw w w' := by
 have hB := hv.lt AV (by omega);obtain ⟨y, hy, B0⟩ := AM w (Obj.cells #[ji id, .slice ad L.length cap] 51);have A0 : Ap y w.heap.size id (.slice ad L.length cap) := by rw [hy]; exact Ap.new w _ _ _
 have S0 := A0.lt;have hv2 := hv.below B0 hB;have hB2 := hv2.lt AV (by omega);clear hv hB;obtain ⟨O, hO⟩ := AC (Cv id L);rw [← hO];replace hO : Hid _ := hO;cases hb : Az id L with
 | false =>
  have hN : Hid (O = none) := by unfold Hid; rw [hO.out]; unfold Cv; rw [hb]; rfl
  clear hO;go_enter func116, ntmps116
  go_wp2
  rw [← hy];clear hy;obtain ⟨a0, a1⟩ := A0;refine wp_loop_rounds 1 ?_; rw [rounds_succ]
  by_cases h0 : L.length = 0
  ·
   obtain rfl : L = [] := List.eq_nil_of_length_eq_zero h0;go_wp2
   refine bodyPost_ret (by simp [results, results116, go_sem]; rfl) rfl ⟨by rw [hN.out]; rfl, B0⟩
  have d0 : decide ((0 : Int) < (L.length : Int)) = true := decide_eq_true (by omega);have d0' : decide (0 < L.length) = true := decide_eq_true (by omega);go_wp2_with fail
  go_at_call 91
  refine (Fh id ad cap L y hv2 hl).mono ?_;rintro e w1 ⟨rfl, k1⟩;have B1 := AG B0 k1;rw [hb];go_wp2
  refine bodyPost_ret (by simp [results, results116, go_sem]; rfl) rfl ⟨by rw [hN.out]; rfl, B1⟩
 | true =>
  have hlen := (DJ hb).2.1;have hall : Hid (∀ i, Ae (L.getD i Pt.nil) = true) := (DJ hb).2.2;have hN : Hid (O = Cp id L L.length) := by unfold Hid; rw [hO.out]; unfold Cv; rw [hb]; rfl
  replace hb : Hid _ := hb;clear hO;go_enter func116, ntmps116
  go_wp2
  rw [← hy];clear hy;have A1 := A0;obtain ⟨w1, hw1⟩ := AC y;rw [← hw1] at A1 B0 S0 hv2 hB2 ⊢;have B1 := B0;have S1 := S0;clear A0 hw1 S0;go_loopw [4, 5] (fun q i wr => ∃ k : Nat, k ≤ L.length ∧ i = .int .i64 (k : Int) ∧ q = .int .i64 (oI (Cp id L k)) ∧ Below w1.heap.size w1 wr) (fun _ i _ => L.length - (intOf i).toNat)
  case atStart => exact ⟨0, Nat.zero_le _, rfl, rfl, Below.refl _ _⟩
  case round =>
   obtain ⟨k, hk, rfl, rfl, hbr⟩ := hrel;have A2 := A1.below hbr (by omega);obtain ⟨a0, a1⟩ := A2;by_cases hlt : k < L.length
   ·
    obtain ⟨bk, off, rfl, _⟩ := hv2 (by omega);obtain ⟨h, hh⟩ : ∃ h, L.getD k Pt.nil = h := ⟨_, rfl⟩;have hv3 := hv2.below hbr hB2;have hck : CA wr bk (off + k * 11) h := by
     rw [← hh];exact CP (hv3.at_ AV Pt.nil hlt)
    have hok : Ae h = true := by rw [← hh]; exact hall.out k
    have hcu : Hid ((h.up && Br id h) = Br id h) := Kb (id := id) hok;replace hh : Hid _ := hh;obtain ⟨q, hq⟩ := AC (oI (Cp id L k));rw [← hq];replace hq : Hid _ := hq;go_wp2_with fail
    go_at_call 91
    refine (Fh id (some (ja bk off)) cap L wr hv3 hl).mono ?_;rintro e wr2 ⟨rfl, kr⟩;rw [hb.out];have hbr2 := AG hbr kr;have hv4 := hv3.below kr (hv3.lt AV (by omega));obtain ⟨c0, c1, c2, c3, c4, c5, c6, c7, c8, c9, c10⟩ : CA wr2 bk (off + k * 11) h := by rw [← hh.out]; exact CP (hv4.at_ AV Pt.nil hlt)
    clear a0 a1 hck;obtain ⟨a0, a1⟩ := A1.below hbr2 (by omega);obtain ⟨y3, hy3, kn⟩ := AM wr2 (Obj.cells (pc h) 47);have P3 : Bg y3 wr2.heap.size h := by rw [hy3]; exact EN wr2 _ _
    have A3 : Ap y3 w.heap.size id (.slice (some (ja bk off)) L.length cap) := by rw [hy3]; exact Ap.alloc ⟨a0, a1⟩ _
    have Bb := AG hbr2 kn;have hv3 := hv4.below kn (hv4.lt AV (by omega));have S3 : wr2.heap.size < y3.heap.size := P3.lt;have S4 := hbr2.size;go_upto_region 6 with fail
    rw [← hy3];clear hy3 a0 a1 c0 c1 c2 c3 c4 c5 c6 c7 c8 c9 c10 kr hbr hv4;generalize wr2.heap.size = Q at P3 S3 S4 kn ⊢
    clear kn;obtain ⟨e0, e1, e2, e3, e4, e5, e6, e7, e8, e9, e10⟩ := (P3 : Bg y3 Q h);obtain ⟨a0, a1⟩ := (A3 : Ap y3 w.heap.size id _);have P3 : Bg y3 Q h := ⟨e0, e1, e2, e3, e4, e5, e6, e7, e8, e9, e10⟩;have A3 : Ap y3 w.heap.size id (.slice (some (ja bk off)) L.length cap) := ⟨a0, a1⟩;cases hhas : h.has with
    | false =>
     rw [hhas] at e1;have hc : Hid (Br id h = false) := by unfold Hid Br; rw [hhas]; rfl
     go_wp2
     go_roundw
     case rel => exact ⟨k + 1, by omega, by go_num, by rw [hq.out, H9 hh.out hc.out], Bb⟩
     case measure => simp [intOf]; omega
    | true =>
     rw [hhas] at e1;by_cases h1 : h.b = id
     focus
      have d1 : (h.b == id) = true := by simpa using h1
      replace h1 : Hid _ := h1;have hc : Hid (Br id h = false) := by unfold Hid Br; rw [d1]; simp
     rotate_left;have d1 : (h.b == id) = false := by simpa using h1
     replace h1 : Hid _ := h1;by_cases h2 : id ≤ h.r
     focus
      have d2 : decide (id ≤ h.r) = true := decide_eq_true h2;have d2' : decide (h.r < id) = false := decide_eq_false (by omega);clear h2;have hc : Hid (Br id h = false) := by unfold Hid Br; rw [d2']; simp
     rotate_left;have d2 : decide (id ≤ h.r) = false := decide_eq_false h2;have d2' : Hid (decide (h.r < id) = true) := decide_eq_true (by omega);clear h2;by_cases h3 : 20 ≤ h.c
     focus
      have d3 : decide (20 ≤ h.c) = true := decide_eq_true h3;have d3' : decide (h.c < 20) = false := decide_eq_false (by omega);clear h3;have hc : Hid (Br id h = false) := by unfold Hid Br; rw [d3']; simp
     rotate_left;have d3 : decide (20 ≤ h.c) = false := decide_eq_false h3;have d3' : Hid (decide (h.c < 20) = true) := decide_eq_true (by omega);clear h3;by_cases h4 : 8 ≤ h.h
     focus
      have d4 : decide (8 ≤ h.h) = true := decide_eq_true h4;have d4' : decide (h.h < 8) = false := decide_eq_false (by omega);clear h4;have hc : Hid (Br id h = false) := by unfold Hid Br; rw [d4']; simp
     rotate_left;focus
      have d4 : decide (8 ≤ h.h) = false := decide_eq_false h4;have d4' : Hid (decide (h.h < 8) = true) := decide_eq_true (by omega);clear h4;have hc : Hid (Br id h = true) := by unfold Hid Br; rw [hhas, d1, d2'.out, d3'.out, d4'.out]; rfl
      go_upto_region 7 with fail
      clear a0 a1 e0 e1 e2 e3 e4 e5 e6 e7 e8 e9 e10 d1 d2 d2' d3 d3' d4 d4' hhas;cases hbt : Cp id L k with
      | none =>
       obtain rfl : q = -1 := by rw [hq.out, hbt]; rfl
       replace hbt : Hid _ := hbt;clear hq;refine An (fun Y => Bw y3 Y) fun u0 hb0 => ?_
       refine tw 0 53 (ji (-1)) ?_;refine tw 1 54 (.bool true) ?_ (hy := by intro Y hSw; go_simp);refine tw 2 55 (.bool true) ?_;refine ts 3 56 ?_;refine ts 4 57 ?_;refine ts 5 58 ?_;refine ts 6 59 ?_;refine ts 7 60 ?_;refine ts 8 61 ?_;refine ts 9 62 ?_;refine ts 10 63 ?_;refine ts 11 64 ?_;refine tw 12 65 (.bool true) ?_;refine Ag ?_;go_wp2
       go_roundw
       case rel => exact ⟨k + 1, by omega, by go_num, by rw [JY hbt.out hh.out hc.out]; rfl, AG Bb hb0⟩
       case measure => simp [intOf]; omega
      | some j =>
       obtain rfl : q = (j : Int) := by rw [hq.out, hbt]; rfl
       have hj := (HI hbt).1;replace hbt : Hid _ := hbt;clear hq;have dj : decide ((j : Int) < 0) = false := decide_eq_false (by omega);have hjl : j < L.length := by omega
       obtain ⟨g, hgg⟩ : ∃ g, L.getD j Pt.nil = g := ⟨_, rfl⟩;have hg : ∀ Y, Bw y3 Y → CA Y bk (off + j * 11) g := fun Y hY => by rw [← hgg]; exact CP ((hv3.below hY (hv3.lt AV (by omega))).at_ AV Pt.nil hjl)
       replace hgg : Hid _ := hgg;obtain ⟨t, ht⟩ : ∃ t, Gl h g = t := ⟨_, rfl⟩;have ht' : DF h.r h.c h.b h.p g.r g.c g.b g.p = t := ht;replace ht : Hid _ := ht;replace ht' : Hid _ := ht';cases t
       focus
        refine An (fun Y => Bw y3 Y) fun u0 hb0 => ?_
        refine tw 0 53 (ji (j : Int)) ?_;refine tw 1 54 (.bool false) ?_ (hy := by intro Y hSw; go_simp);refine tw 2 55 (.bool false) ?_;refine tw 3 56 (.pointer (some (ja Q 2))) ?_;refine tw 4 57 (.agg #[ji h.r, ji h.c, ji h.b, ji h.p]) ?_ (hy := by intro Y hSw; have X := (P3.below hSw (by omega)).all; go_simp);refine tw 5 58 (.pointer (some (ja w.heap.size 1))) ?_;refine tw 6 59 (.slice (some (ja bk off)) L.length cap) ?_ (hy := by intro Y hSw; obtain ⟨X0, X1⟩ := A3.below hSw (by omega); go_simp);refine tw 7 60 (ji (j : Int)) ?_;refine tw 8 61 (.pointer (some ⟨bk, off + j * 11, none⟩)) ?_ (hy := by intro Y hSw; go_simp; try omega);refine tw 9 62 (.pointer (some ⟨bk, off + j * 11 + 2, none⟩)) ?_;refine tw 10 63 (.agg #[ji g.r, ji g.c, ji g.b, ji g.p]) ?_ (hy := by intro Y hSw; have X := (hg Y hSw).all; go_simp);refine wpAnyH_all (rs := [11]) (by kernel_rfl) (by simp) ?_;intro i hi; obtain rfl : i = 11 := by simpa using hi
        refine wpOp_step rfl (fun K hK => ?_);rw [if_pos (by kernel_rfl)];go_simp
        go_at_call 128
        refine (Fr h.r h.c h.b h.p g.r g.c g.b g.p u0).mono ?_;rintro e u1 ⟨rfl, kq⟩;have hb1 := AG hb0 kq;clear kq;rw [ht'.out];refine hK _ _ ⟨hb1, ?_⟩;clear hK K hi;refine tw 12 65 (.bool false) ?_
       rotate_left;focus
        refine An (fun Y => Bw y3 Y) fun u0 hb0 => ?_
        refine tw 0 53 (ji (j : Int)) ?_;refine tw 1 54 (.bool false) ?_ (hy := by intro Y hSw; go_simp);refine tw 2 55 (.bool false) ?_;refine tw 3 56 (.pointer (some (ja Q 2))) ?_;refine tw 4 57 (.agg #[ji h.r, ji h.c, ji h.b, ji h.p]) ?_ (hy := by intro Y hSw; have X := (P3.below hSw (by omega)).all; go_simp);refine tw 5 58 (.pointer (some (ja w.heap.size 1))) ?_;refine tw 6 59 (.slice (some (ja bk off)) L.length cap) ?_ (hy := by intro Y hSw; obtain ⟨X0, X1⟩ := A3.below hSw (by omega); go_simp);refine tw 7 60 (ji (j : Int)) ?_;refine tw 8 61 (.pointer (some ⟨bk, off + j * 11, none⟩)) ?_ (hy := by intro Y hSw; go_simp; try omega);refine tw 9 62 (.pointer (some ⟨bk, off + j * 11 + 2, none⟩)) ?_;refine tw 10 63 (.agg #[ji g.r, ji g.c, ji g.b, ji g.p]) ?_ (hy := by intro Y hSw; have X := (hg Y hSw).all; go_simp);refine wpAnyH_all (rs := [11]) (by kernel_rfl) (by simp) ?_;intro i hi; obtain rfl : i = 11 := by simpa using hi
        refine wpOp_step rfl (fun K hK => ?_);rw [if_pos (by kernel_rfl)];go_simp
        go_at_call 128
        refine (Fr h.r h.c h.b h.p g.r g.c g.b g.p u0).mono ?_;rintro e u1 ⟨rfl, kq⟩;have hb1 := AG hb0 kq;clear kq;rw [ht'.out];refine hK _ _ ⟨hb1, ?_⟩;clear hK K hi;refine tw 12 65 (.bool true) ?_
       rotate_left;all_goals
        refine Ag ?_;go_wp2
        go_roundw
        case rel => exact ⟨k + 1, by omega, by go_num, by rw [JX hbt.out hh.out hgg.out hc.out ht.out]; rfl, AG Bb hb1⟩
        case measure => simp [intOf]; omega
     all_goals
      go_wp2
      go_roundw
      case rel => exact ⟨k + 1, by omega, by go_num, by rw [hq.out, H9 hh.out hc.out], Bb⟩
      case measure => simp [intOf]; omega
   obtain rfl : k = L.length := by omega
   have BF := AG B1 hbr;cases hbt : Cp id L L.length with
   | none =>
    have hN2 : Hid (O = none) := by unfold Hid; rw [hN.out, hbt]
    simp only [oI];clear hN hbt;go_wp2
    refine bodyPost_ret (by simp [results, results116, go_sem]; rfl) rfl ⟨by rw [hN2.out]; rfl, BF⟩
   | some j =>
    have hN2 : Hid (O = some j) := by unfold Hid; rw [hN.out, hbt]
    have dj : decide (0 ≤ (j : Int)) = true := decide_eq_true (by omega);simp only [oI];clear hN hbt;go_wp2
    refine bodyPost_ret (by simp [results, results116, go_sem]; rfl) rfl ⟨by rw [hN2.out]; rfl, BF⟩
end Go.Proofs.YtjmnaeeknomiaaaGreatDoor
