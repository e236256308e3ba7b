import Derived.Test.YtjmnaeeknomiaaaGreatRKWBr7
import Derived.Test.YtjmnaeeknomiaaaGreatRM17
namespace Go.Proofs.YtjmnaeeknomiaaaGreat
open Go.ChangeShapes Go.WideShapes Go.ChangeAt Go.RowKit
open Go.ChangeMaps (open_string shut_string)
set_option linter.unusedVariables false
set_option maxRecDepth 100000
set_option maxHeartbeats 32000000
set_option linter.unusedSimpArgs false
open Go.Proofs.Tryz
theorem GG (id : Int) (ad : Option Addr) (cap : Nat) (L : List Pt) (w : World) (hv : AH AL w ad L) (hl : L.length ≤ 1048576) :
  Calls prog 127 #[.agg #[ji id, .slice ad L.length cap]] w fun e w' => e = .returned (.tuple #[ji (oI (Cs id L)), .bool (Cs id L).isSome]) ∧ Bw w w' := by
 have hB := hv.lt AZ (by omega);obtain ⟨y, hy, B0⟩ := AI w (Obj.cells #[ji id, .slice ad L.length cap] 42);have A0 : As y w.heap.size id (.slice ad L.length cap) := by rw [hy]; exact As.new w _ _ _
 have S0 := A0.lt;have hv2 := hv.below B0 hB;have hB2 := hv2.lt AZ (by omega);clear hv hB;obtain ⟨O, hO⟩ := AC (Cs id L);rw [← hO];replace hO : Hid _ := hO;cases hb : Bl id L with
 | false =>
  have hN : Hid (O = none) := by unfold Hid; rw [hO.out]; unfold Cs; rw [hb]; rfl
  clear hO;go_enter func127, ntmps127
  go_wp2
  rw [← hy];clear hy;obtain ⟨a0, a1⟩ := A0;refine wp_loop_rounds 1 ?_; rw [rounds_succ]
  by_cases h0 : L.length = 0
  ·
   obtain rfl : L = [] := List.eq_nil_of_length_eq_zero h0;go_wp2
   refine bodyPost_ret (by simp [results, results127, go_sem]; rfl) rfl ⟨by rw [hN.out]; rfl, B0⟩
  have d0 : decide ((0 : Int) < (L.length : Int)) = true := decide_eq_true (by omega);have d0' : decide (0 < L.length) = true := decide_eq_true (by omega);go_wp2_with fail
  go_at_call 44
  refine (Ex id ad cap L y hv2 hl).mono ?_;rintro e w1 ⟨rfl, k1⟩;have B1 := AE B0 k1;rw [hb];go_wp2
  refine bodyPost_ret (by simp [results, results127, go_sem]; rfl) rfl ⟨by rw [hN.out]; rfl, B1⟩
 | true =>
  have hlen := (DX hb).2.1;have hall : Hid (∀ i, Ax (L.getD i Pt.nil) = true) := (DX hb).2.2;have hN : Hid (O = Ch id L L.length) := by unfold Hid; rw [hO.out]; unfold Cs; rw [hb]; rfl
  replace hb : Hid _ := hb;clear hO;go_enter func127, ntmps127
  go_wp2
  rw [← hy];clear hy;have A1 := A0;obtain ⟨w1, hw1⟩ := AC y;rw [← hw1] at A1 B0 S0 hv2 hB2 ⊢;have B1 := B0;have S1 := S0;clear A0 hw1 S0;go_loopw [4, 5] (fun q i wr => ∃ k : Nat, k ≤ L.length ∧ i = .int .i64 (k : Int) ∧ q = .int .i64 (oI (Ch id L k)) ∧ Below w1.heap.size w1 wr) (fun _ i _ => L.length - (intOf i).toNat)
  case atStart => exact ⟨0, Nat.zero_le _, rfl, rfl, Below.refl _ _⟩
  case round =>
   obtain ⟨k, hk, rfl, rfl, hbr⟩ := hrel;have A2 := A1.below hbr (by omega);obtain ⟨a0, a1⟩ := A2;by_cases hlt : k < L.length
   ·
    obtain ⟨bk, off, rfl, _⟩ := hv2 (by omega);obtain ⟨h, hh⟩ : ∃ h, L.getD k Pt.nil = h := ⟨_, rfl⟩;have hv3 := hv2.below hbr hB2;have hck : Bt wr bk (off + k * 11) h := by
     rw [← hh];exact CJ (hv3.at_ AZ Pt.nil hlt)
    have hok : Ax h = true := by rw [← hh]; exact hall.out k
    have hcu : Hid ((h.up && Bu id h) = Bu id h) := JH (id := id) hok;replace hh : Hid _ := hh;obtain ⟨q, hq⟩ := AC (oI (Ch id L k));rw [← hq];replace hq : Hid _ := hq;go_wp2_with fail
    go_at_call 44
    refine (Ex id (some (ja bk off)) cap L wr hv3 hl).mono ?_;rintro e wr2 ⟨rfl, kr⟩;rw [hb.out];have hbr2 := AE hbr kr;have hv4 := hv3.below kr (hv3.lt AZ (by omega));obtain ⟨c0, c1, c2, c3, c4, c5, c6, c7, c8, c9, c10⟩ : Bt wr2 bk (off + k * 11) h := by rw [← hh.out]; exact CJ (hv4.at_ AZ Pt.nil hlt)
    clear a0 a1 hck;obtain ⟨a0, a1⟩ := A1.below hbr2 (by omega);obtain ⟨y3, hy3, kn⟩ := AI wr2 (Obj.cells (pc h) 70);have P3 : Bv y3 wr2.heap.size h := by rw [hy3]; exact ES wr2 _ _
    have A3 : As y3 w.heap.size id (.slice (some (ja bk off)) L.length cap) := by rw [hy3]; exact As.alloc ⟨a0, a1⟩ _
    have Bb := AE hbr2 kn;have hv3 := hv4.below kn (hv4.lt AZ (by omega));have S3 : wr2.heap.size < y3.heap.size := P3.lt;have S4 := hbr2.size;go_upto_region 6 with fail
    rw [← hy3];clear hy3 a0 a1 c0 c1 c2 c3 c4 c5 c6 c7 c8 c9 c10 kr hbr hv4;generalize wr2.heap.size = Q at P3 S3 S4 kn ⊢
    clear kn;obtain ⟨e0, e1, e2, e3, e4, e5, e6, e7, e8, e9, e10⟩ := (P3 : Bv y3 Q h);obtain ⟨a0, a1⟩ := (A3 : As y3 w.heap.size id _);have P3 : Bv y3 Q h := ⟨e0, e1, e2, e3, e4, e5, e6, e7, e8, e9, e10⟩;have A3 : As y3 w.heap.size id (.slice (some (ja bk off)) L.length cap) := ⟨a0, a1⟩;cases hhas : h.has with
    | false =>
     rw [hhas] at e1;have hc : Hid (Bu id h = false) := by unfold Hid Bu; rw [hhas]; rfl
     go_wp2
     go_roundw
     case rel => exact ⟨k + 1, by omega, by go_num, by rw [hq.out, HP hh.out hc.out], Bb⟩
     case measure => simp [intOf]; omega
    | true =>
     rw [hhas] at e1;by_cases h1 : h.b = id
     focus
      have d1 : (h.b == id) = true := by simpa using h1
      replace h1 : Hid _ := h1;have hc : Hid (Bu id h = false) := by unfold Hid Bu; rw [d1]; simp
     rotate_left;have d1 : (h.b == id) = false := by simpa using h1
     replace h1 : Hid _ := h1;by_cases h2 : id ≤ h.r
     focus
      have d2 : decide (id ≤ h.r) = true := decide_eq_true h2;have d2' : decide (h.r < id) = false := decide_eq_false (by omega);clear h2;have hc : Hid (Bu id h = false) := by unfold Hid Bu; rw [d2']; simp
     rotate_left;have d2 : decide (id ≤ h.r) = false := decide_eq_false h2;have d2' : Hid (decide (h.r < id) = true) := decide_eq_true (by omega);clear h2;by_cases h3 : 20 ≤ h.c
     focus
      have d3 : decide (20 ≤ h.c) = true := decide_eq_true h3;have d3' : decide (h.c < 20) = false := decide_eq_false (by omega);clear h3;have hc : Hid (Bu id h = false) := by unfold Hid Bu; rw [d3']; simp
     rotate_left;have d3 : decide (20 ≤ h.c) = false := decide_eq_false h3;have d3' : Hid (decide (h.c < 20) = true) := decide_eq_true (by omega);clear h3;by_cases h4 : 8 ≤ h.h
     focus
      have d4 : decide (8 ≤ h.h) = true := decide_eq_true h4;have d4' : decide (h.h < 8) = false := decide_eq_false (by omega);clear h4;have hc : Hid (Bu id h = false) := by unfold Hid Bu; rw [d4']; simp
     rotate_left;focus
      have d4 : decide (8 ≤ h.h) = false := decide_eq_false h4;have d4' : Hid (decide (h.h < 8) = true) := decide_eq_true (by omega);clear h4;have hc : Hid (Bu id h = true) := by unfold Hid Bu; rw [hhas, d1, d2'.out, d3'.out, d4'.out]; rfl
      go_upto_region 7 with fail
      clear a0 a1 e0 e1 e2 e3 e4 e5 e6 e7 e8 e9 e10 d1 d2 d2' d3 d3' d4 d4' hhas;cases hbt : Ch id L k with
      | none =>
       obtain rfl : q = -1 := by rw [hq.out, hbt]; rfl
       replace hbt : Hid _ := hbt;clear hq;refine AV (fun Y => Bw y3 Y) fun u0 hb0 => ?_
       refine tw 0 53 (ji (-1)) ?_;refine tw 1 54 (.bool true) ?_ (hy := by intro Y hSw; go_simp);refine tw 2 55 (.bool true) ?_;refine ts 3 56 ?_;refine ts 4 57 ?_;refine ts 5 58 ?_;refine ts 6 59 ?_;refine ts 7 60 ?_;refine ts 8 61 ?_;refine ts 9 62 ?_;refine ts 10 63 ?_;refine ts 11 64 ?_;refine tw 12 65 (.bool true) ?_;refine AR ?_;go_wp2
       go_roundw
       case rel => exact ⟨k + 1, by omega, by go_num, by rw [IY hbt.out hh.out hc.out]; rfl, AE Bb hb0⟩
       case measure => simp [intOf]; omega
      | some j =>
       obtain rfl : q = (j : Int) := by rw [hq.out, hbt]; rfl
       have hj := (Gs hbt).1;replace hbt : Hid _ := hbt;clear hq;have dj : decide ((j : Int) < 0) = false := decide_eq_false (by omega);have hjl : j < L.length := by omega
       obtain ⟨g, hgg⟩ : ∃ g, L.getD j Pt.nil = g := ⟨_, rfl⟩;have hg : ∀ Y, Bw y3 Y → Bt Y bk (off + j * 11) g := fun Y hY => by rw [← hgg]; exact CJ ((hv3.below hY (hv3.lt AZ (by omega))).at_ AZ Pt.nil hjl)
       replace hgg : Hid _ := hgg;obtain ⟨t, ht⟩ : ∃ t, GD h g = t := ⟨_, rfl⟩;have ht' : Cv h.r h.c h.b h.p g.r g.c g.b g.p = t := ht;replace ht : Hid _ := ht;replace ht' : Hid _ := ht';cases t
       focus
        refine AV (fun Y => Bw y3 Y) fun u0 hb0 => ?_
        refine tw 0 53 (ji (j : Int)) ?_;refine tw 1 54 (.bool false) ?_ (hy := by intro Y hSw; go_simp);refine tw 2 55 (.bool false) ?_;refine tw 3 56 (.pointer (some (ja Q 2))) ?_;refine tw 4 57 (.agg #[ji h.r, ji h.c, ji h.b, ji h.p]) ?_ (hy := by intro Y hSw; have X := (P3.below hSw (by omega)).all; go_simp);refine tw 5 58 (.pointer (some (ja w.heap.size 1))) ?_;refine tw 6 59 (.slice (some (ja bk off)) L.length cap) ?_ (hy := by intro Y hSw; obtain ⟨X0, X1⟩ := A3.below hSw (by omega); go_simp);refine tw 7 60 (ji (j : Int)) ?_;refine tw 8 61 (.pointer (some ⟨bk, off + j * 11, none⟩)) ?_ (hy := by intro Y hSw; go_simp; try omega);refine tw 9 62 (.pointer (some ⟨bk, off + j * 11 + 2, none⟩)) ?_;refine tw 10 63 (.agg #[ji g.r, ji g.c, ji g.b, ji g.p]) ?_ (hy := by intro Y hSw; have X := (hg Y hSw).all; go_simp);refine wpAnyH_all (rs := [11]) (by kernel_rfl) (by simp) ?_;intro i hi; obtain rfl : i = 11 := by simpa using hi
        refine wpOp_step rfl (fun K hK => ?_);rw [if_pos (by kernel_rfl)];go_simp
        go_at_call 150
        refine (FD h.r h.c h.b h.p g.r g.c g.b g.p u0).mono ?_;rintro e u1 ⟨rfl, kq⟩;have hb1 := AE hb0 kq;clear kq;rw [ht'.out];refine hK _ _ ⟨hb1, ?_⟩;clear hK K hi;refine tw 12 65 (.bool false) ?_
       rotate_left;focus
        refine AV (fun Y => Bw y3 Y) fun u0 hb0 => ?_
        refine tw 0 53 (ji (j : Int)) ?_;refine tw 1 54 (.bool false) ?_ (hy := by intro Y hSw; go_simp);refine tw 2 55 (.bool false) ?_;refine tw 3 56 (.pointer (some (ja Q 2))) ?_;refine tw 4 57 (.agg #[ji h.r, ji h.c, ji h.b, ji h.p]) ?_ (hy := by intro Y hSw; have X := (P3.below hSw (by omega)).all; go_simp);refine tw 5 58 (.pointer (some (ja w.heap.size 1))) ?_;refine tw 6 59 (.slice (some (ja bk off)) L.length cap) ?_ (hy := by intro Y hSw; obtain ⟨X0, X1⟩ := A3.below hSw (by omega); go_simp);refine tw 7 60 (ji (j : Int)) ?_;refine tw 8 61 (.pointer (some ⟨bk, off + j * 11, none⟩)) ?_ (hy := by intro Y hSw; go_simp; try omega);refine tw 9 62 (.pointer (some ⟨bk, off + j * 11 + 2, none⟩)) ?_;refine tw 10 63 (.agg #[ji g.r, ji g.c, ji g.b, ji g.p]) ?_ (hy := by intro Y hSw; have X := (hg Y hSw).all; go_simp);refine wpAnyH_all (rs := [11]) (by kernel_rfl) (by simp) ?_;intro i hi; obtain rfl : i = 11 := by simpa using hi
        refine wpOp_step rfl (fun K hK => ?_);rw [if_pos (by kernel_rfl)];go_simp
        go_at_call 150
        refine (FD h.r h.c h.b h.p g.r g.c g.b g.p u0).mono ?_;rintro e u1 ⟨rfl, kq⟩;have hb1 := AE hb0 kq;clear kq;rw [ht'.out];refine hK _ _ ⟨hb1, ?_⟩;clear hK K hi;refine tw 12 65 (.bool true) ?_
       rotate_left;all_goals
        refine AR ?_;go_wp2
        go_roundw
        case rel => exact ⟨k + 1, by omega, by go_num, by rw [IX hbt.out hh.out hgg.out hc.out ht.out]; rfl, AE Bb hb1⟩
        case measure => simp [intOf]; omega
     all_goals
      go_wp2
      go_roundw
      case rel => exact ⟨k + 1, by omega, by go_num, by rw [hq.out, HP hh.out hc.out], Bb⟩
      case measure => simp [intOf]; omega
   obtain rfl : k = L.length := by omega
   have BF := AE B1 hbr;cases hbt : Ch id L L.length with
   | none =>
    have hN2 : Hid (O = none) := by unfold Hid; rw [hN.out, hbt]
    simp only [oI];clear hN hbt;go_wp2
    refine bodyPost_ret (by simp [results, results127, go_sem]; rfl) rfl ⟨by rw [hN2.out]; rfl, BF⟩
   | some j =>
    have hN2 : Hid (O = some j) := by unfold Hid; rw [hN.out, hbt]
    have dj : decide (0 ≤ (j : Int)) = true := decide_eq_true (by omega);simp only [oI];clear hN hbt;go_wp2
    refine bodyPost_ret (by simp [results, results127, go_sem]; rfl) rfl ⟨by rw [hN2.out]; rfl, BF⟩
attribute [local go_sem] ji ja
theorem Gg (id : Int) (ad : Option Addr) (cap : Nat) (L : List Pt) (port : Int) (w : World) (hv : AH AL w ad L) (hl : L.length ≤ 1048576) :
  Calls prog 85 #[.agg #[ji id, .slice ad L.length cap], ji port] w fun e w' => e = .returned (.agg #[ji (CZ id L port).1, ji (CZ id L port).2.1, ji (CZ id L port).2.2.1, ji (CZ id L port).2.2.2]) ∧ Bw w w' := by
 have hB := hv.lt AZ (by omega);obtain ⟨y, hy⟩ := AC ((w.alloc (Obj.cells #[ji id, .slice ad L.length cap] 42)).alloc (Obj.cells #[ji 0, ji 0, ji 0, ji 0] 62));have B0 : Bw w y := by rw [hy]; exact ((Below.refl _ _).alloc (Nat.le_refl _) _).alloc (by simp) _
 have A0 : As y w.heap.size id (.slice ad L.length cap) := by rw [hy]; constructor <;> simp [go_sem]
 have V0 : Ek y (w.heap.size + 1) 0 0 0 0 := by rw [hy]; refine ⟨?_, fun i => ?_⟩; (refine ⟨?_, ?_, ?_, ?_⟩ <;> simp [go_sem]); simp [go_sem]
 have S0 : w.heap.size + 1 < y.heap.size := V0.lt;have hv1 := hv.below B0 hB;have hB1 := hv1.lt AZ (by omega);obtain ⟨Y, hY⟩ := AC (CZ id L port);rw [← hY];replace hY : Hid _ := hY;go_enter func85, ntmps85
 go_wp2_with fail
 go_at_call 44
 rw [← hy];clear hy hv hB;refine (Ex id ad cap L y hv1 hl).mono ?_;rintro e w1 ⟨rfl, k1⟩;have B1 := AE B0 k1;have A1 := A0.below k1 (by omega);have V1 := V0.below k1 (by omega);have S1 : w.heap.size + 1 < w1.heap.size := V1.lt;have hv2 := hv1.below k1 hB1;have hB2 := hv2.lt AZ (by omega);clear A0 V0 hv1 hB1 k1 B0 S0;cases hb : Bl id L with
 | false =>
  have hN : Hid (Y = (0, 0, 0, 0)) := by unfold Hid; rw [hY.out]; unfold CZ; rw [hb]; rfl
  clear hY;obtain ⟨⟨t0, t1, t2, t3⟩, tf⟩ := V1;have BZ := B1.setCell (p := ⟨w.heap.size + 1, 0, none⟩) (by show _ ≤ w.heap.size + 1; omega) (ji 0);have BZ := BZ.setCell (p := ⟨w.heap.size + 1, 1, none⟩) (by show _ ≤ w.heap.size + 1; omega) (ji 0);have BZ := BZ.setCell (p := ⟨w.heap.size + 1, 2, none⟩) (by show _ ≤ w.heap.size + 1; omega) (ji 0);have BZ := BZ.setCell (p := ⟨w.heap.size + 1, 3, none⟩) (by show _ ≤ w.heap.size + 1; omega) (ji 0);go_wp2
  refine bodyPost_ret (v := .agg #[ji 0, ji 0, ji 0, ji 0]) (by simp [results, results85, go_sem, *]) rfl ⟨by rw [hN.out], BZ⟩
 | true =>
  have hlen := (DX hb).2.1;by_cases hp : 0 ≤ port ∧ port < (L.length : Int)
  rotate_left
  ·
   have hN : Hid (Y = (0, 0, 0, 0)) := by unfold Hid; rw [hY.out]; unfold CZ; rw [hb, decide_eq_false hp]; rfl
   have dp : decide (0 ≤ port ∧ port < (L.length : Int)) = false := decide_eq_false hp;clear hY;obtain ⟨a0, a1⟩ := A1;replace hp : Hid _ := hp;have es : decide (0 ≤ port ∧ port ≤ (L.length : Int) - 1) = decide (0 ≤ port ∧ port < (L.length : Int)) := decide_eq_decide.2 (by omega);go_wp2_with fail
   go_at_call 65
   refine (BK port 0 ((L.length : Int) - 1) w1).mono ?_;rintro e w2 ⟨rfl, hw2⟩;have kp : Bw w1 w2 := by rw [hw2]; exact Below.refl _ _
   rw [es];clear es hw2;rw [dp];have B2 := AE B1 kp;have V2 := V1.below kp S1;clear dp;obtain ⟨⟨t0, t1, t2, t3⟩, tf⟩ := V2;have BZ := B2.setCell (p := ⟨w.heap.size + 1, 0, none⟩) (by show _ ≤ w.heap.size + 1; omega) (ji 0);have BZ := BZ.setCell (p := ⟨w.heap.size + 1, 1, none⟩) (by show _ ≤ w.heap.size + 1; omega) (ji 0);have BZ := BZ.setCell (p := ⟨w.heap.size + 1, 2, none⟩) (by show _ ≤ w.heap.size + 1; omega) (ji 0);have BZ := BZ.setCell (p := ⟨w.heap.size + 1, 3, none⟩) (by show _ ≤ w.heap.size + 1; omega) (ji 0);go_wp2
   refine bodyPost_ret (v := .agg #[ji 0, ji 0, ji 0, ji 0]) (by simp [results, results85, go_sem, *]) rfl ⟨by rw [hN.out], BZ⟩
  have dp : decide (0 ≤ port ∧ port < (L.length : Int)) = true := decide_eq_true hp;have hN : Hid (Y = match Cs id L with
   | none => (id, 0, id, port)
   | some k => ((L.getD k Pt.nil).r, (L.getD k Pt.nil).c + 1, id, port)) := by unfold Hid; rw [hY.out]; unfold CZ; rw [hb, dp]; rfl
  clear hY;replace hp : Hid _ := hp;obtain ⟨a0, a1⟩ := A1;have es : decide (0 ≤ port ∧ port ≤ (L.length : Int) - 1) = decide (0 ≤ port ∧ port < (L.length : Int)) := decide_eq_decide.2 (by omega);go_wp2_with fail
  go_at_call 65
  refine (BK port 0 ((L.length : Int) - 1) w1).mono ?_;rintro e w2 ⟨rfl, hw2⟩;have kp : Bw w1 w2 := by rw [hw2]; exact Below.refl _ _
  rw [es];clear es hw2;rw [dp];have B2 := AE B1 kp;have A2 := As.below ⟨a0, a1⟩ kp (by omega);have V2 := V1.below kp S1;have S2 : w.heap.size + 1 < w2.heap.size := V2.lt;have hv3 := hv2.below kp hB2;have hB3 := hv3.lt AZ (by omega);clear dp a0 a1 kp V1 hv2 hB2 B1;obtain ⟨a0, a1⟩ := A2;go_wp2_with fail
  go_at_call 127
  refine (GG id ad cap L w2 hv3 hl).mono ?_;rintro e w3 ⟨rfl, k3⟩;have B3 := AE B2 k3;have A3 := As.below ⟨a0, a1⟩ k3 (by omega);have V3 := V2.below k3 S2;have S3 : w.heap.size + 1 < w3.heap.size := V3.lt;have hv4 := hv3.below k3 hB3;clear a0 a1 k3 V2 hv3 hB3 B2;obtain ⟨a0, a1⟩ := A3;obtain ⟨⟨t0, t1, t2, t3⟩, tf⟩ := V3;cases hr : Cs id L with
  | none =>
   have hN2 : Hid (Y = (id, 0, id, port)) := by unfold Hid; rw [hN.out, hr]
   clear hN;have BZ := B3.setCell (p := ⟨w.heap.size + 1, 0, none⟩) (by show _ ≤ w.heap.size + 1; omega) (ji id);have BZ := BZ.setCell (p := ⟨w.heap.size + 1, 1, none⟩) (by show _ ≤ w.heap.size + 1; omega) (ji 0);have BZ := BZ.setCell (p := ⟨w.heap.size + 1, 2, none⟩) (by show _ ≤ w.heap.size + 1; omega) (ji id);have BZ := BZ.setCell (p := ⟨w.heap.size + 1, 3, none⟩) (by show _ ≤ w.heap.size + 1; omega) (ji port);simp only [oI, Option.isSome];go_wp2
   refine bodyPost_ret (v := .agg #[ji id, ji 0, ji id, ji port]) (by simp [results, results85, go_sem, *]) rfl ⟨by rw [hN2.out], BZ⟩
  | some k =>
   obtain ⟨_, hk, hcd⟩ := Fu hr;obtain ⟨g, hg⟩ : ∃ g, L.getD k Pt.nil = g := ⟨_, rfl⟩;have hN2 : Hid (Y = (g.r, g.c + 1, id, port)) := by unfold Hid; rw [hN.out, hr, ← hg]
   have hc20 : g.c < 20 := by
    rw [hg] at hcd;simp only [Bu, Bool.and_eq_true, decide_eq_true_eq] at hcd;exact hcd.2.2.2.1
   have hc0 : 0 ≤ g.c := by
    rw [hg] at hcd;simp only [Bu, Bool.and_eq_true, decide_eq_true_eq] at hcd;have h1 := (DX hb).2.2 k;rw [hg] at h1;have h2 := (FA h1 hcd.1).2.1;simp only [Ad, decide_eq_true_eq] at h2;omega
   obtain ⟨bk, off, rfl, _⟩ := hv4 (by omega);obtain ⟨c0, c1, c2, c3, c4, c5, c6, c7, c8, c9, c10⟩ : Bt w3 bk (off + k * 11) g := by rw [← hg]; exact CJ (hv4.at_ AZ Pt.nil hk)
   clear hN hg hcd hr hv4;obtain ⟨y4, hy4, kn⟩ := AI w3 (Obj.cells #[ji g.r, ji g.c, ji g.b, ji g.p] 62);have G4 : EC y4 w3.heap.size g.r g.c g.b g.p := by rw [hy4]; exact G2 w3 _ _ _ _ _
   have A4 := As.below ⟨a0, a1⟩ kn (by omega);have V4 := Ek.below ⟨⟨t0, t1, t2, t3⟩, tf⟩ kn (by omega);have B4 := AE B3 kn;simp only [oI, Option.isSome];go_upto_region 7 with fail
   rw [← hy4];clear hy4 a0 a1 t0 t1 t2 t3 tf kn c0 c1 c2 c3 c4 c5 c6 c7 c8 c9 c10;generalize w3.heap.size = Q at S3 G4 ⊢
   obtain ⟨a0, a1⟩ := A4;obtain ⟨⟨t0, t1, t2, t3⟩, tf⟩ := V4;replace G4 := G4.all;have BZ := B4.setCell (p := ⟨w.heap.size + 1, 0, none⟩) (by show _ ≤ w.heap.size + 1; omega) (ji g.r);have BZ := BZ.setCell (p := ⟨w.heap.size + 1, 1, none⟩) (by show _ ≤ w.heap.size + 1; omega) (ji (g.c + 1));have BZ := BZ.setCell (p := ⟨w.heap.size + 1, 2, none⟩) (by show _ ≤ w.heap.size + 1; omega) (ji id);have BZ := BZ.setCell (p := ⟨w.heap.size + 1, 3, none⟩) (by show _ ≤ w.heap.size + 1; omega) (ji port);go_wp2
   refine bodyPost_ret (v := .agg #[ji g.r, ji (g.c + 1), ji id, ji port]) (by simp [results, results85, go_sem, *]) rfl ⟨by rw [hN2.out], BZ⟩
theorem KS (id : Int) (ad : Option Addr) (cap : Nat) (L : List Pt) (w : World) (hv : AH AL w ad L) (hl : L.length ≤ 1048576) :
  Calls prog 86 #[.agg #[ji id, .slice ad L.length cap]] w fun e w' => e = .returned (ji (Ev id L)) ∧ Bw w w' := by
 have hB := hv.lt AZ (by omega);obtain ⟨y, hy, B0⟩ := AI w (Obj.cells #[ji id, .slice ad L.length cap] 42);have A0 : As y w.heap.size id (.slice ad L.length cap) := by rw [hy]; exact As.new w _ _ _
 have S0 := A0.lt;have hv1 := hv.below B0 hB;have hB1 := hv1.lt AZ (by omega);obtain ⟨Y, hY⟩ := AC (Ev id L);rw [← hY];replace hY : Hid _ := hY;go_enter func86, ntmps86
 go_wp2_with fail
 go_at_call 127
 rw [← hy];clear hy hv hB;refine (GG id ad cap L y hv1 hl).mono ?_;rintro e w3 ⟨rfl, k3⟩;have B3 := AE B0 k3;obtain ⟨a0, a1⟩ := A0.below k3 (by omega);have hv4 := hv1.below k3 hB1;clear k3 hv1 hB1 A0;cases hr : Cs id L with
 | none =>
  have hN2 : Hid (Y = 0) := by unfold Hid; rw [hY.out]; unfold Ev; rw [hr]
  simp only [oI, Option.isSome];go_wp2
  go_ret
  exact ⟨by rw [hN2.out]; rfl, B3⟩
 | some k =>
  obtain ⟨hb, hk, hcd⟩ := Fu hr;obtain ⟨g, hg⟩ : ∃ g, L.getD k Pt.nil = g := ⟨_, rfl⟩;have hN2 : Hid (Y = g.h + 1) := by unfold Hid; rw [hY.out]; unfold Ev; rw [hr, ← hg]
  have hlen := (DX hb).2.1;have hh8 : 0 ≤ g.h ∧ g.h < 8 := by
   rw [hg] at hcd;simp only [Bu, Bool.and_eq_true, decide_eq_true_eq] at hcd;have h1 := (DX hb).2.2 k;rw [hg] at h1;exact ⟨(FA h1 hcd.1).2.2.1, hcd.2.2.2.2⟩
  obtain ⟨h0, h8⟩ := hh8;obtain ⟨bk, off, rfl, _⟩ := hv4 (by omega);obtain ⟨c0, c1, c2, c3, c4, c5, c6, c7, c8, c9, c10⟩ : Bt w3 bk (off + k * 11) g := by rw [← hg]; exact CJ (hv4.at_ AZ Pt.nil hk)
  clear hY hg hcd hr hv4 hb;simp only [oI, Option.isSome];go_wp2
  go_ret
  exact ⟨by rw [hN2.out]; rfl, B3⟩
end Go.Proofs.YtjmnaeeknomiaaaGreat
namespace Go.Proofs.YtjmnaeeknomiaaaGreat
open Go.ChangeShapes Go.WideShapes Go.ChangeAt Go.RowKit
open Go.ChangeMaps (open_string shut_string)
set_option linter.unusedVariables false
set_option maxRecDepth 100000
set_option maxHeartbeats 32000000
set_option linter.unusedSimpArgs false
open Go.Proofs.Tryz
theorem IB {X : Type} {mk : Nat → X} {L : List X} {k : Nat} (d : X) (h : k < L.length) (e : mk k = L.getD k d) : Bi mk L (k + 1) = Bi mk L k := by
 unfold Bi;rw [List.range_succ, List.map_append, List.drop_eq_getElem_cons h];simp [e, List.getD, h]
theorem Ie {x : Pt} (h : Ax x = true) (hu : x.up = false) : x.has = false := by
 cases hh : x.has
 ·
  rfl
 rw [(FA h hh).1] at hu; cases hu
theorem Ic {id : Int} {L : List Pt} {k : Nat} {h : Pt} (hr : Cs id L = some k) (hh : L.getD k Pt.nil = h) : h.has = true := by
 have := (Fu hr).2.2;rw [hh] at this;simp only [Bu, Bool.and_eq_true] at this;exact this.1
theorem Fc (id : Int) (ad : Option Addr) (cap : Nat) (L : List Pt) (w : World) (hv : AH AL w ad L) (hl : L.length ≤ 1048576) (hn : ad = none → cap = 0) :
  Calls prog 126 #[.agg #[ji id, .slice ad L.length cap]] w fun e w' => ∃ ad' cap', e = .returned (.agg #[ji id, .slice ad' (Bg id L).length cap']) ∧ AB AL 11 70 w.heap.size w' (.slice ad' (Bg id L).length cap') (Bg id L) ∧ Bw w w' := by
 have hB := hv.lt AZ (by omega);obtain ⟨y, hy⟩ := AC ((w.alloc (Obj.cells #[ji id, .slice ad L.length cap] 42)).alloc (Obj.cells #[ji 0, .slice none 0 0] 42));have B0 : Bw w y := by rw [hy]; exact ((Below.refl _ _).alloc (Nat.le_refl _) _).alloc (by simp) _
 have A0 : As y w.heap.size id (.slice ad L.length cap) := by rw [hy]; constructor <;> simp [go_sem]
 have R0 : AU y (w.heap.size + 1) 0 (.slice none 0 0) := by rw [hy]; refine ⟨?_, fun i => ?_⟩; constructor <;> simp [go_sem]; simp [go_sem]
 have S0 := R0.lt;have hv1 := hv.below B0 hB;have hB1 := hv1.lt AZ (by omega);obtain ⟨D, hD⟩ := AC (Bg id L);rw [← hD];replace hD : Hid _ := hD;go_enter func126, ntmps126
 go_wp2_with fail
 go_at_call 83
 rw [← hy];clear hy hv hB;refine (Ew id ad cap L y hv1 hl hn).mono ?_;rintro e w1 ⟨adN, capN, rfl, oN, k1⟩;have B1 := AE B0 k1;have A1 := A0.below k1 (by omega);have R1 := R0.below k1 (by omega);have S1 : w.heap.size + 1 < w1.heap.size := R1.lt;have hv2 := hv1.below k1 hB1;have hB2 := hv2.lt AZ (by omega);have bt : ∀ a, ad = some a → 0 < L.length → a.block < y.heap.size := hB1;clear A0 R0 hv1 hB1;obtain ⟨y2, hy2, kn⟩ := AI w1 (Obj.cells #[ji id, .slice adN L.length capN] 42);have N2 : AU y2 w1.heap.size id (.slice adN L.length capN) := by rw [hy2]; exact AU.new w1 _ _ _
 have A2 := A1.below kn (by omega);have R2 := R1.below kn (by omega);have B2 := AE B1 kn;have K2 := AE k1 kn;have hv3 := hv2.below kn hB2;have hB3 := hv3.lt AZ (by omega);have o2 := oN.later kn;have S2 := N2.lt;have og : ∀ g, (Value.slice adN L.length capN).ownBlock = some g → y.heap.size ≤ g ∧ g < w1.heap.size := fun g e => oN.lt g e
 clear oN k1 hv2 hB2 B1;go_upto_region 2 with fail
 rw [← hy2];clear hy2 A1 kn;generalize w1.heap.size = N at S1 N2 S2 og ⊢
 obtain ⟨a0, a1⟩ := A2;have A2 : As y2 w.heap.size id (.slice ad L.length cap) := ⟨a0, a1⟩;go_wp2_with fail
 go_at_call 44
 clear a0 a1;refine (Ex id ad cap L y2 hv3 hl).mono ?_;rintro e w3 ⟨rfl, k3⟩;have B3 := AE B2 k3;have K3 := AE K2 k3;have A3 := A2.below k3 (by omega);have R3 := R2.below k3 (by omega);have N3 := N2.below k3 S2;have hv4 := hv3.below k3 hB3;have o3 := o2.later k3;have S3 := N3.lt;clear k3 A2 R2 N2 hv3 hB3 o2 B2 K2;cases hb : Bl id L with
 | false =>
  have hN : Hid (D = L) := by unfold Hid; rw [hD.out]; unfold Bg; rw [hb]; rfl
  clear hD;have RP := R3.put id (.slice adN L.length capN);obtain ⟨⟨r0, r1⟩, rf⟩ := R3;obtain ⟨⟨n0, n1⟩, nf⟩ := N3;have BZ : Bw w ((w3.setCell ⟨w.heap.size + 1, 0, none⟩ (ji id)).setCell ⟨w.heap.size + 1, 1, none⟩ (.slice adN L.length capN)) := (B3.setCell (by show _ ≤ w.heap.size + 1; omega) _).setCell (by show _ ≤ w.heap.size + 1; omega) _;have OZ : AB AL 11 70 w.heap.size ((w3.setCell ⟨w.heap.size + 1, 0, none⟩ (ji id)).setCell ⟨w.heap.size + 1, 1, none⟩ (.slice adN L.length capN)) (.slice adN L.length capN) L := (o3.base (by omega)).keep fun g e => by
   have := og g e;rw [AF (by show g ≠ w.heap.size + 1; omega), AF (by show g ≠ w.heap.size + 1; omega)]
  obtain ⟨⟨p0, p1⟩, _⟩ := RP;clear og bt;go_wp2
  refine bodyPost_ret (v := .agg #[ji id, .slice adN L.length capN]) (by simp [results, results126, go_sem, *]) rfl ⟨adN, capN, by rw [hN.out], by rw [hN.out]; exact OZ, BZ⟩
 | true =>
  have hlen := (DX hb).2.1;obtain ⟨g, rfl, hg1, hg2⟩ := o3.row (by omega);have hg3 : g < N := (og g rfl).2;have hD2 : Hid (D = (List.range L.length).map fun i => ET (L.getD i Pt.nil) (Da id L i)) := by unfold Hid; rw [hD.out]; unfold Bg; rw [hb]; rfl
  replace hb : Hid _ := hb;obtain ⟨f, hf⟩ : ∃ f : Nat → Pt, f = fun i => ET (L.getD i Pt.nil) (Da id L i) := ⟨_, rfl⟩
  rw [← hf] at hD2;replace hD2 : Hid _ := hD2;have hfk : ∀ i, ET (L.getD i Pt.nil) (Da id L i) = f i := fun i => by rw [hf]
  clear hf hD og;replace hfk : Hid _ := hfk;have M0 : AB AL 11 70 y.heap.size w3 (.slice (some (ja g 0)) L.length capN) (Bi f L 0) := by rw [Gy]; exact o3
  clear o3;obtain ⟨a0, a1⟩ := A3;have A3 : As w3 w.heap.size id (.slice ad L.length cap) := ⟨a0, a1⟩;go_wp2_with fail
  go_at_call 127
  refine (GG id ad cap L w3 hv4 hl).mono ?_;rintro e w4 ⟨rfl, k4⟩;have A3 := A3.below k4 (by omega);have N3 := N3.below k4 S3;have M0 := M0.later k4;have K3 := AE K3 k4;have R3 := R3.below k4 (by omega);have hv4 := hv4.below k4 (hv4.lt AZ (by omega));have S3 := N3.lt;clear a0 a1 k4 B3;obtain ⟨q, hq⟩ := AC (oI (Cs id L));rw [← hq];replace hq : Hid _ := hq;obtain ⟨iss, hiss⟩ := AC ((Cs id L).isSome);rw [← hiss];clear hiss;have AY : As y w.heap.size id (.slice ad L.length cap) := A3.keep (K3.block _ (by omega)).symm;have RY : AU y (w.heap.size + 1) 0 (.slice none 0 0) := R3.keep (K3.block _ S0).symm;have hvy : AH AL y ad L := hv4.carry fun a e p => (K3.block _ (bt a e p)).symm
  go_wp2
  clear A3 R3 hv4;go_loopw [6] (fun i wr => ∃ k : Nat, k ≤ L.length ∧ i = .int .i64 (k : Int) ∧ AB AL 11 70 y.heap.size wr (.slice (some ⟨g, 0, none⟩) L.length capN) (Bi f L k) ∧ AU wr N id (.slice (some ⟨g, 0, none⟩) L.length capN) ∧ Below y.heap.size y wr) (fun i _ => L.length - (intOf i).toNat)
  case atStart => exact ⟨0, Nat.zero_le _, rfl, M0, N3, K3⟩
  case round =>
   obtain ⟨k, hk, rfl, M, N4, K4⟩ := hrel;have A4 := AY.below K4 (by omega);have R4 := RY.below K4 S0;have B4 := AE B0 K4;have S4 := N4.lt;obtain ⟨a0, a1⟩ := A4;by_cases hlt : k < L.length
   ·
    have hv5 := hvy.below K4 bt;obtain ⟨bk, off, rfl, _⟩ := hv5 (by omega);obtain ⟨h, hh⟩ : ∃ h, L.getD k Pt.nil = h := ⟨_, rfl⟩;obtain ⟨c0, c1, c2, c3, c4, c5, c6, c7, c8, c9, c10⟩ : Bt wr bk (off + k * 11) h := by rw [← hh]; exact CJ (hv5.at_ AZ Pt.nil hlt)
    have hok : Hid (Ax h = true) := by unfold Hid; rw [← hh]; exact (DX hb.out).2.2 k
    obtain ⟨z, hz⟩ := AC (f k);have hz2 : Hid (ET h (Da id L k) = z) := by unfold Hid; rw [hz, ← hh]; exact hfk.out k
    replace hz : Hid _ := hz;replace hh : Hid _ := hh;obtain ⟨y5, hy5, kn⟩ := AI wr (Obj.cells (pc h) 70);have P5 : Bv y5 wr.heap.size h := by rw [hy5]; exact ES wr _ _
    have A5 := As.below ⟨a0, a1⟩ kn (by omega);have N5 := N4.below kn S4;have M5 := M.later kn;have hv6 := hv5.below kn (hv5.lt AZ (by omega));have hB6 := hv6.lt AZ (by omega);have K5 := AE K4 kn;have S5 := P5.lt;have hgw : g < wr.heap.size := (M.lt g rfl).2;go_upto_region 10 with fail
    rw [← hy5];clear hy5 a0 a1 c0 c1 c2 c3 c4 c5 c6 c7 c8 c9 c10 kn M N4 hv5;generalize wr.heap.size = Q at P5 S4 S5 hgw ⊢
    have hdk : ∀ b : Bool, decide (Cs id L = some k) = b → ((k : Int) == q) = b := by
     intro b hb';rw [hq.out, ← hb'];cases ho : Cs id L with
     | none =>
      rw [decide_eq_false (by simp)];simp only [oI, beq_eq_false_iff_ne, ne_eq]; omega
     | some j =>
      by_cases e : j = k
      ·
       subst e;simp [oI]
      rw [decide_eq_false (by simpa using e)];simp only [oI, beq_eq_false_iff_ne, ne_eq]; omega
    replace hdk : Hid _ := hdk;obtain ⟨e0, e1, e2, e3, e4, e5, e6, e7, e8, e9, e10⟩ := P5;have P5 : Bv y5 Q h := ⟨e0, e1, e2, e3, e4, e5, e6, e7, e8, e9, e10⟩;cases hu : h.up with
    | false =>
     have hhas : h.has = false := Ie hok.out hu;have dk : ((k : Int) == q) = false := hdk.out false (decide_eq_false (fun e => by have := Ic e hh.out; rw [hhas] at this; cases this));rw [hu] at e0;have MN : AB AL 11 70 y.heap.size y5 (.slice (some (ja g 0)) L.length capN) (Bi f L (k + 1)) := by
      rw [IB Pt.nil hlt (by rw [← hz.out, ← hz2.out, hh.out]; unfold ET; rw [hu]; rfl)];exact M5
     replace MN : Hid _ := MN;go_upto_region 12 with fail
     refine AV (fun Y => Bw y5 Y) fun u0 hb0 => ?_
     refine tw 0 35 (.pointer (some (ja Q 1))) ?_;refine tw 1 36 (.bool false) ?_ (hy := by intro Y hSw; have X := (P5.below hSw (by omega)).all; go_simp);refine tw 2 37 (.bool false) ?_;refine ts 3 38 ?_;refine ts 4 39 ?_;refine ts 5 40 ?_;refine ts 6 41 ?_;refine ts 7 42 ?_;refine ts 8 43 ?_;refine tw 9 44 (.bool false) ?_;refine AR ?_;obtain ⟨x0, x1, x2, x3, x4, x5, x6, x7, x8, x9, x10⟩ := P5.below hb0 (by omega);rw [hu] at x0;go_wp2
     go_roundw
     case rel => exact ⟨k + 1, by omega, by go_num, AB.below MN.out hb0 (fun g' e => by obtain rfl : g = g' := (by simpa [Value.ownBlock] using e); omega), N5.below hb0 (by omega), AE K5 hb0⟩
     case measure => simp [intOf]; omega
    | true =>
     rw [hu] at e0;replace hu : Hid _ := hu;by_cases hr : Cs id L = some k
     ·
      have dk : ((k : Int) == q) = true := hdk.out true (decide_eq_true hr);have hro : Hid (Da id L k = 1) := by unfold Hid Da; rw [if_pos hr]
      have hz3 : Hid (Ci h 1 = z) := by unfold Hid; rw [FY, ← hz2.out, hro.out]
      go_upto_region 15 with fail
      clear e0 e1 e2 e3 e4 e5 e6 e7 e8 e9 e10;refine AV (fun Y => AW g y5.heap.size y5 Y) fun u0 hb0 => ?_
      have hS0 : AW g y5.heap.size y5 u0 := AW.of hb0;refine tw 0 47 (.pointer (some (ja N 1))) ?_;refine tw 1 48 (.slice (some (ja g 0)) L.length capN) ?_ (hy := by intro Y hSw; obtain ⟨X0, X1⟩ := N5.at_.bar hSw (by omega) (by omega); go_simp);refine tw 2 49 (ji (k : Int)) ?_;refine tw 3 50 (.agg (pc h)) ?_ (hy := by intro Y hSw; have X := (P5.bar hSw (by omega) (by omega)).all; go_simp);refine tw 4 51 (ji 1) ?_;refine wpAnyH_all (rs := [5]) (by kernel_rfl) (by simp) ?_;intro i hi; obtain rfl : i = 5 := by simpa using hi
      refine wpOp_step rfl (fun K hK => ?_);rw [if_pos (by kernel_rfl)];go_simp
      go_at_call 153
      refine (Fh h 1 u0).mono ?_;rintro e u1 ⟨rfl, kq⟩;have hb1 := AE hb0 kq;clear kq;rw [hz3.out];have hS1 : AW g y5.heap.size y5 u1 := AW.of hb1;refine hK _ _ ⟨AW.of hb1, ?_⟩;clear hK K hi;refine tw 6 53 (.pointer (some ⟨g, k * 11, none⟩)) ?_ (hy := by intro Y hSw; go_simp; try omega);refine wpAnyH_all (rs := [7]) (by kernel_rfl) (by simp) ?_;intro i hi; obtain rfl : i = 7 := by simpa using hi
      refine wpOp_step rfl (fun K hK => ?_);rw [if_pos (by kernel_rfl)];have MU : AB AL 11 70 y.heap.size u1 (.slice (some (ja g 0)) L.length capN) (Bi f L k) := M5.below hb1 (fun g' e => by obtain rfl : g = g' := (by simpa [Value.ownBlock] using e); omega);have hml : (Bi f L k).length = L.length := FT hk;rw [← hml] at MU;obtain ⟨t0, t1, t2, t3, t4, t5, t6, t7, t8, t9, t10⟩ : Bt u1 g (k * 11) ((Bi f L k).getD k Pt.nil) := CJ (MU.cell AZ Pt.nil (by rw [hml]; exact hlt));have ff := MU.frozen;have f0 := ff (k * 11);have f1 := ff (k * 11 + 1);have f2 := ff (k * 11 + 2);have f3 := ff (k * 11 + 3);have f4 := ff (k * 11 + 4);have f5 := ff (k * 11 + 5);have f6 := ff (k * 11 + 6);have f7 := ff (k * 11 + 7);have f8 := ff (k * 11 + 8);have f9 := ff (k * 11 + 9);have f10 := ff (k * 11 + 10);have MS := MU.set AZ (by omega) (i := k) (by rw [hml]; exact hlt) z;rw [hz.out, FS hlt, Cc, hml, ← hz.out] at MS;have SB := AW.putAll (o := k * 11) (AL z) (AW.of (g := g) hb1);rw [Cc] at SB;have BB := DF (B := y.heap.size) hg1 (AL z) (k * 11) (AE K5 hb1);rw [Cc] at BB;clear hml ff MU;obtain ⟨uf, huf⟩ := AC (((((((((((u1.setCell ⟨g, k * 11, none⟩ (.bool z.up)).setCell ⟨g, k * 11 + 1, none⟩ (.bool z.has)).setCell ⟨g, k * 11 + 2, none⟩ (ji z.r)).setCell ⟨g, k * 11 + 3, none⟩ (ji z.c)).setCell ⟨g, k * 11 + 4, none⟩ (ji z.b)).setCell ⟨g, k * 11 + 5, none⟩ (ji z.p)).setCell ⟨g, k * 11 + 6, none⟩ (ji z.h)).setCell ⟨g, k * 11 + 7, none⟩ (ji z.l)).setCell ⟨g, k * 11 + 8, none⟩ (ji z.ro)).setCell ⟨g, k * 11 + 9, none⟩ (ji z.wa)).setCell ⟨g, k * 11 + 10, none⟩ (.bool z.op));rw [← huf] at MS SB BB;go_simp
      rw [← huf];have NF := N5.at_.bar SB (by omega) (by omega);have NFF : AU uf N id (.slice (some (ja g 0)) L.length capN) := N5.keep (SB.block N (by omega) (by omega));clear huf t0 f0 t1 f1 t2 f2 t3 f3 t4 f4 t5 f5 t6 f6 t7 f7 t8 f8 t9 f9 t10 f10 NF;refine hK _ _ ⟨SB, ?_⟩;clear hK K hi;refine AR ?_;go_wp2
      go_roundw
      case rel => exact ⟨k + 1, by omega, by go_num, MS, NFF, BB⟩
      case measure => simp [intOf]; omega
     have dk : ((k : Int) == q) = false := hdk.out false (decide_eq_false hr);have hρ2 : Hid (Da id L k = if h.has && Cv h.r h.c h.b h.p (CZ id L k).1 (CZ id L k).2.1 (CZ id L k).2.2.1 (CZ id L k).2.2.2 then 3 else 2) := by unfold Hid; unfold Da; rw [if_neg hr, hh.out]
     replace hr : Hid _ := hr;go_upto_region 12 with fail
     clear e0 e1 e2 e3 e4 e5 e6 e7 e8 e9 e10;cases hhas : h.has with
     | false =>
      have hro : Hid (Da id L k = 2) := by unfold Hid; rw [hρ2.out, hhas]; rfl
      have hz3 : Hid (Ci h 2 = z) := by unfold Hid; rw [FY, ← hz2.out, hro.out]
      refine AV (fun Y => Bw y5 Y) fun u0 hb0 => ?_
      refine tw 0 35 (.pointer (some (ja Q 1))) ?_;refine tw 1 36 (.bool false) ?_ (hy := by intro Y hSw; have X := (P5.below hSw (by omega)).all; go_simp);refine tw 2 37 (.bool false) ?_;refine ts 3 38 ?_;refine ts 4 39 ?_;refine ts 5 40 ?_;refine ts 6 41 ?_;refine ts 7 42 ?_;refine ts 8 43 ?_;refine tw 9 44 (.bool false) ?_;refine AR ?_;obtain ⟨y6, hy6⟩ := AC u0;rw [← hy6] at hb0 ⊢;clear hy6;have P5 := P5.below hb0 (by omega);have A5 := A5.below hb0 (by omega);have N5 := N5.below hb0 (by omega);have K5 := AE K5 hb0;have M5 := M5.below hb0 (fun g' e => by obtain rfl : g = g' := (by simpa [Value.ownBlock] using e); omega);have S5 := P5.lt;have S6 := N5.lt;obtain ⟨x0, x1, x2, x3, x4, x5, x6, x7, x8, x9, x10⟩ := P5;have P5 : Bv y6 Q h := ⟨x0, x1, x2, x3, x4, x5, x6, x7, x8, x9, x10⟩;rw [hu.out] at x0;replace hhas : Hid _ := hhas;go_upto_region 15 with fail
      clear x0 x1 x2 x3 x4 x5 x6 x7 x8 x9 x10 hb0;refine AV (fun Y => AW g y6.heap.size y6 Y) fun u0 hb0 => ?_
      have hS0 : AW g y6.heap.size y6 u0 := AW.of hb0;refine tw 0 47 (.pointer (some (ja N 1))) ?_;refine tw 1 48 (.slice (some (ja g 0)) L.length capN) ?_ (hy := by intro Y hSw; obtain ⟨X0, X1⟩ := N5.at_.bar hSw (by omega) (by omega); go_simp);refine tw 2 49 (ji (k : Int)) ?_;refine tw 3 50 (.agg (pc h)) ?_ (hy := by intro Y hSw; have X := (P5.bar hSw (by omega) (by omega)).all; go_simp);refine tw 4 51 (ji 2) ?_;refine wpAnyH_all (rs := [5]) (by kernel_rfl) (by simp) ?_;intro i hi; obtain rfl : i = 5 := by simpa using hi
      refine wpOp_step rfl (fun K hK => ?_);rw [if_pos (by kernel_rfl)];go_simp
      go_at_call 153
      refine (Fh h 2 u0).mono ?_;rintro e u1 ⟨rfl, kq⟩;have hb1 := AE hb0 kq;clear kq;rw [hz3.out];have hS1 : AW g y6.heap.size y6 u1 := AW.of hb1;refine hK _ _ ⟨AW.of hb1, ?_⟩;clear hK K hi;refine tw 6 53 (.pointer (some ⟨g, k * 11, none⟩)) ?_ (hy := by intro Y hSw; go_simp; try omega);refine wpAnyH_all (rs := [7]) (by kernel_rfl) (by simp) ?_;intro i hi; obtain rfl : i = 7 := by simpa using hi
      refine wpOp_step rfl (fun K hK => ?_);rw [if_pos (by kernel_rfl)];have MU : AB AL 11 70 y.heap.size u1 (.slice (some (ja g 0)) L.length capN) (Bi f L k) := M5.below hb1 (fun g' e => by obtain rfl : g = g' := (by simpa [Value.ownBlock] using e); omega);have hml : (Bi f L k).length = L.length := FT hk;rw [← hml] at MU;obtain ⟨t0, t1, t2, t3, t4, t5, t6, t7, t8, t9, t10⟩ : Bt u1 g (k * 11) ((Bi f L k).getD k Pt.nil) := CJ (MU.cell AZ Pt.nil (by rw [hml]; exact hlt));have ff := MU.frozen;have f0 := ff (k * 11);have f1 := ff (k * 11 + 1);have f2 := ff (k * 11 + 2);have f3 := ff (k * 11 + 3);have f4 := ff (k * 11 + 4);have f5 := ff (k * 11 + 5);have f6 := ff (k * 11 + 6);have f7 := ff (k * 11 + 7);have f8 := ff (k * 11 + 8);have f9 := ff (k * 11 + 9);have f10 := ff (k * 11 + 10);have MS := MU.set AZ (by omega) (i := k) (by rw [hml]; exact hlt) z;rw [hz.out, FS hlt, Cc, hml, ← hz.out] at MS;have SB := AW.putAll (o := k * 11) (AL z) (AW.of (g := g) hb1);rw [Cc] at SB;have BB := DF (B := y.heap.size) hg1 (AL z) (k * 11) (AE K5 hb1);rw [Cc] at BB;clear hml ff MU;obtain ⟨uf, huf⟩ := AC (((((((((((u1.setCell ⟨g, k * 11, none⟩ (.bool z.up)).setCell ⟨g, k * 11 + 1, none⟩ (.bool z.has)).setCell ⟨g, k * 11 + 2, none⟩ (ji z.r)).setCell ⟨g, k * 11 + 3, none⟩ (ji z.c)).setCell ⟨g, k * 11 + 4, none⟩ (ji z.b)).setCell ⟨g, k * 11 + 5, none⟩ (ji z.p)).setCell ⟨g, k * 11 + 6, none⟩ (ji z.h)).setCell ⟨g, k * 11 + 7, none⟩ (ji z.l)).setCell ⟨g, k * 11 + 8, none⟩ (ji z.ro)).setCell ⟨g, k * 11 + 9, none⟩ (ji z.wa)).setCell ⟨g, k * 11 + 10, none⟩ (.bool z.op));rw [← huf] at MS SB BB;go_simp
      rw [← huf];have NF := N5.at_.bar SB (by omega) (by omega);have NFF : AU uf N id (.slice (some (ja g 0)) L.length capN) := N5.keep (SB.block N (by omega) (by omega));clear huf t0 f0 t1 f1 t2 f2 t3 f3 t4 f4 t5 f5 t6 f6 t7 f7 t8 f8 t9 f9 t10 f10 NF;refine hK _ _ ⟨SB, ?_⟩;clear hK K hi;refine AR ?_;go_wp2
      go_roundw
      case rel => exact ⟨k + 1, by omega, by go_num, MS, NFF, BB⟩
      case measure => simp [intOf]; omega
     | true =>
      obtain ⟨⟨v1, v2, v3, v4⟩, hov⟩ : ∃ v, CZ id L k = v := ⟨_, rfl⟩;have hρ3 : Hid (Da id L k = if Cv h.r h.c h.b h.p v1 v2 v3 v4 then 3 else 2) := by unfold Hid; rw [hρ2.out, hhas, hov]; rfl
      replace hov : Hid _ := hov;obtain ⟨t, ht⟩ : ∃ t, Cv h.r h.c h.b h.p v1 v2 v3 v4 = t := ⟨_, rfl⟩;replace ht : Hid _ := ht;cases t
      focus
       have hro : Hid (Da id L k = 2) := by unfold Hid; rw [hρ3.out, ht.out]; rfl
       have hz3 : Hid (Ci h 2 = z) := by unfold Hid; rw [FY, ← hz2.out, hro.out]
       refine AV (fun Y => Bw y5 Y) fun u0 hb0 => ?_
       refine tw 0 35 (.pointer (some (ja Q 1))) ?_;refine tw 1 36 (.bool true) ?_ (hy := by intro Y hSw; have X := (P5.below hSw (by omega)).all; go_simp);refine tw 2 37 (.bool true) ?_;refine tw 3 38 (.pointer (some (ja Q 2))) ?_;refine tw 4 39 (.agg #[ji h.r, ji h.c, ji h.b, ji h.p]) ?_ (hy := by intro Y hSw; have X := (P5.below hSw (by omega)).all; go_simp);refine tw 5 40 (.agg #[ji id, .slice (some (ja bk off)) L.length cap]) ?_ (hy := by intro Y hSw; obtain ⟨X0, X1⟩ := A5.below hSw (by omega); go_simp);refine tw 6 41 (ji (k : Int)) ?_;refine wpAnyH_all (rs := [7]) (by kernel_rfl) (by simp) ?_;intro i hi; obtain rfl : i = 7 := by simpa using hi
       refine wpOp_step rfl (fun K hK => ?_);rw [if_pos (by kernel_rfl)];go_simp
       go_at_call 85
       refine (Gg id (some (ja bk off)) cap L (k : Int) u0 (hv6.below hb0 hB6) hl).mono ?_;rintro e u1 ⟨rfl, kq⟩;have hb1 := AE hb0 kq;clear kq;rw [hov.out];refine hK _ _ ⟨hb1, ?_⟩;clear hK K hi;refine wpAnyH_all (rs := [8]) (by kernel_rfl) (by simp) ?_;intro i hi; obtain rfl : i = 8 := by simpa using hi
       refine wpOp_step rfl (fun K hK => ?_);rw [if_pos (by kernel_rfl)];go_simp
       go_at_call 150
       refine (FD h.r h.c h.b h.p v1 v2 v3 v4 u1).mono ?_;rintro e u2 ⟨rfl, kq⟩;have hb2 := AE hb1 kq;clear kq;rw [ht.out];refine hK _ _ ⟨hb2, ?_⟩;clear hK K hi;refine tw 9 44 (.bool false) ?_;refine AR ?_;obtain ⟨y6, hy6⟩ := AC u2;rw [← hy6] at hb2 ⊢;clear hy6;have P5 := P5.below hb2 (by omega);have A5 := A5.below hb2 (by omega);have N5 := N5.below hb2 (by omega);have K5 := AE K5 hb2;have M5 := M5.below hb2 (fun g' e => by obtain rfl : g = g' := (by simpa [Value.ownBlock] using e); omega);have S5 := P5.lt;have S6 := N5.lt;obtain ⟨x0, x1, x2, x3, x4, x5, x6, x7, x8, x9, x10⟩ := P5;have P5 : Bv y6 Q h := ⟨x0, x1, x2, x3, x4, x5, x6, x7, x8, x9, x10⟩;rw [hu.out] at x0;replace hhas : Hid _ := hhas;go_upto_region 15 with fail
       clear x0 x1 x2 x3 x4 x5 x6 x7 x8 x9 x10 hb2;refine AV (fun Y => AW g y6.heap.size y6 Y) fun u0 hb0 => ?_
       have hS0 : AW g y6.heap.size y6 u0 := AW.of hb0;refine tw 0 47 (.pointer (some (ja N 1))) ?_;refine tw 1 48 (.slice (some (ja g 0)) L.length capN) ?_ (hy := by intro Y hSw; obtain ⟨X0, X1⟩ := N5.at_.bar hSw (by omega) (by omega); go_simp);refine tw 2 49 (ji (k : Int)) ?_;refine tw 3 50 (.agg (pc h)) ?_ (hy := by intro Y hSw; have X := (P5.bar hSw (by omega) (by omega)).all; go_simp);refine tw 4 51 (ji 2) ?_;refine wpAnyH_all (rs := [5]) (by kernel_rfl) (by simp) ?_;intro i hi; obtain rfl : i = 5 := by simpa using hi
       refine wpOp_step rfl (fun K hK => ?_);rw [if_pos (by kernel_rfl)];go_simp
       go_at_call 153
       refine (Fh h 2 u0).mono ?_
      rotate_left;focus
       have hro : Hid (Da id L k = 3) := by unfold Hid; rw [hρ3.out, ht.out]; rfl
       have hz3 : Hid (Ci h 3 = z) := by unfold Hid; rw [FY, ← hz2.out, hro.out]
       refine AV (fun Y => Bw y5 Y) fun u0 hb0 => ?_
       refine tw 0 35 (.pointer (some (ja Q 1))) ?_;refine tw 1 36 (.bool true) ?_ (hy := by intro Y hSw; have X := (P5.below hSw (by omega)).all; go_simp);refine tw 2 37 (.bool true) ?_;refine tw 3 38 (.pointer (some (ja Q 2))) ?_;refine tw 4 39 (.agg #[ji h.r, ji h.c, ji h.b, ji h.p]) ?_ (hy := by intro Y hSw; have X := (P5.below hSw (by omega)).all; go_simp);refine tw 5 40 (.agg #[ji id, .slice (some (ja bk off)) L.length cap]) ?_ (hy := by intro Y hSw; obtain ⟨X0, X1⟩ := A5.below hSw (by omega); go_simp);refine tw 6 41 (ji (k : Int)) ?_;refine wpAnyH_all (rs := [7]) (by kernel_rfl) (by simp) ?_;intro i hi; obtain rfl : i = 7 := by simpa using hi
       refine wpOp_step rfl (fun K hK => ?_);rw [if_pos (by kernel_rfl)];go_simp
       go_at_call 85
       refine (Gg id (some (ja bk off)) cap L (k : Int) u0 (hv6.below hb0 hB6) hl).mono ?_;rintro e u1 ⟨rfl, kq⟩;have hb1 := AE hb0 kq;clear kq;rw [hov.out];refine hK _ _ ⟨hb1, ?_⟩;clear hK K hi;refine wpAnyH_all (rs := [8]) (by kernel_rfl) (by simp) ?_;intro i hi; obtain rfl : i = 8 := by simpa using hi
       refine wpOp_step rfl (fun K hK => ?_);rw [if_pos (by kernel_rfl)];go_simp
       go_at_call 150
       refine (FD h.r h.c h.b h.p v1 v2 v3 v4 u1).mono ?_;rintro e u2 ⟨rfl, kq⟩;have hb2 := AE hb1 kq;clear kq;rw [ht.out];refine hK _ _ ⟨hb2, ?_⟩;clear hK K hi;refine tw 9 44 (.bool true) ?_;refine AR ?_;obtain ⟨y6, hy6⟩ := AC u2;rw [← hy6] at hb2 ⊢;clear hy6;have P5 := P5.below hb2 (by omega);have A5 := A5.below hb2 (by omega);have N5 := N5.below hb2 (by omega);have K5 := AE K5 hb2;have M5 := M5.below hb2 (fun g' e => by obtain rfl : g = g' := (by simpa [Value.ownBlock] using e); omega);have S5 := P5.lt;have S6 := N5.lt;obtain ⟨x0, x1, x2, x3, x4, x5, x6, x7, x8, x9, x10⟩ := P5;have P5 : Bv y6 Q h := ⟨x0, x1, x2, x3, x4, x5, x6, x7, x8, x9, x10⟩;rw [hu.out] at x0;replace hhas : Hid _ := hhas;go_upto_region 15 with fail
       clear x0 x1 x2 x3 x4 x5 x6 x7 x8 x9 x10 hb2;refine AV (fun Y => AW g y6.heap.size y6 Y) fun u0 hb0 => ?_
       have hS0 : AW g y6.heap.size y6 u0 := AW.of hb0;refine tw 0 47 (.pointer (some (ja N 1))) ?_;refine tw 1 48 (.slice (some (ja g 0)) L.length capN) ?_ (hy := by intro Y hSw; obtain ⟨X0, X1⟩ := N5.at_.bar hSw (by omega) (by omega); go_simp);refine tw 2 49 (ji (k : Int)) ?_;refine tw 3 50 (.agg (pc h)) ?_ (hy := by intro Y hSw; have X := (P5.bar hSw (by omega) (by omega)).all; go_simp);refine tw 4 51 (ji 3) ?_;refine wpAnyH_all (rs := [5]) (by kernel_rfl) (by simp) ?_;intro i hi; obtain rfl : i = 5 := by simpa using hi
       refine wpOp_step rfl (fun K hK => ?_);rw [if_pos (by kernel_rfl)];go_simp
       go_at_call 153
       refine (Fh h 3 u0).mono ?_
      rotate_left;all_goals
       rintro e u1 ⟨rfl, kq⟩;have hb1 := AE hb0 kq;clear kq;rw [hz3.out];have hS1 : AW g y6.heap.size y6 u1 := AW.of hb1;refine hK _ _ ⟨AW.of hb1, ?_⟩;clear hK K hi;refine tw 6 53 (.pointer (some ⟨g, k * 11, none⟩)) ?_ (hy := by intro Y hSw; go_simp; try omega);refine wpAnyH_all (rs := [7]) (by kernel_rfl) (by simp) ?_;intro i hi; obtain rfl : i = 7 := by simpa using hi
       refine wpOp_step rfl (fun K hK => ?_);rw [if_pos (by kernel_rfl)];have MU : AB AL 11 70 y.heap.size u1 (.slice (some (ja g 0)) L.length capN) (Bi f L k) := M5.below hb1 (fun g' e => by obtain rfl : g = g' := (by simpa [Value.ownBlock] using e); omega);have hml : (Bi f L k).length = L.length := FT hk;rw [← hml] at MU;obtain ⟨t0, t1, t2, t3, t4, t5, t6, t7, t8, t9, t10⟩ : Bt u1 g (k * 11) ((Bi f L k).getD k Pt.nil) := CJ (MU.cell AZ Pt.nil (by rw [hml]; exact hlt));have ff := MU.frozen;have f0 := ff (k * 11);have f1 := ff (k * 11 + 1);have f2 := ff (k * 11 + 2);have f3 := ff (k * 11 + 3);have f4 := ff (k * 11 + 4);have f5 := ff (k * 11 + 5);have f6 := ff (k * 11 + 6);have f7 := ff (k * 11 + 7);have f8 := ff (k * 11 + 8);have f9 := ff (k * 11 + 9);have f10 := ff (k * 11 + 10);have MS := MU.set AZ (by omega) (i := k) (by rw [hml]; exact hlt) z;rw [hz.out, FS hlt, Cc, hml, ← hz.out] at MS;have SB := AW.putAll (o := k * 11) (AL z) (AW.of (g := g) hb1);rw [Cc] at SB;have BB := DF (B := y.heap.size) hg1 (AL z) (k * 11) (AE K5 hb1);rw [Cc] at BB;clear hml ff MU;obtain ⟨uf, huf⟩ := AC (((((((((((u1.setCell ⟨g, k * 11, none⟩ (.bool z.up)).setCell ⟨g, k * 11 + 1, none⟩ (.bool z.has)).setCell ⟨g, k * 11 + 2, none⟩ (ji z.r)).setCell ⟨g, k * 11 + 3, none⟩ (ji z.c)).setCell ⟨g, k * 11 + 4, none⟩ (ji z.b)).setCell ⟨g, k * 11 + 5, none⟩ (ji z.p)).setCell ⟨g, k * 11 + 6, none⟩ (ji z.h)).setCell ⟨g, k * 11 + 7, none⟩ (ji z.l)).setCell ⟨g, k * 11 + 8, none⟩ (ji z.ro)).setCell ⟨g, k * 11 + 9, none⟩ (ji z.wa)).setCell ⟨g, k * 11 + 10, none⟩ (.bool z.op));rw [← huf] at MS SB BB;go_simp
       rw [← huf];have NF := N5.at_.bar SB (by omega) (by omega);have NFF : AU uf N id (.slice (some (ja g 0)) L.length capN) := N5.keep (SB.block N (by omega) (by omega));clear huf t0 f0 t1 f1 t2 f2 t3 f3 t4 f4 t5 f5 t6 f6 t7 f7 t8 f8 t9 f9 t10 f10 NF;refine hK _ _ ⟨SB, ?_⟩;clear hK K hi;refine AR ?_;go_wp2
       go_roundw
       case rel => exact ⟨k + 1, by omega, by go_num, MS, NFF, BB⟩
       case measure => simp [intOf]; omega
   obtain rfl : k = L.length := by omega
   rw [HA] at M;have RP := R4.put id (.slice (some (ja g 0)) L.length capN);obtain ⟨⟨r0, r1⟩, rf⟩ := R4;obtain ⟨⟨n0, n1⟩, nf⟩ := N4;have BZ : Bw w ((wr.setCell ⟨w.heap.size + 1, 0, none⟩ (ji id)).setCell ⟨w.heap.size + 1, 1, none⟩ (.slice (some (ja g 0)) L.length capN)) := (B4.setCell (by show _ ≤ w.heap.size + 1; omega) _).setCell (by show _ ≤ w.heap.size + 1; omega) _;have OZ : AB AL 11 70 w.heap.size ((wr.setCell ⟨w.heap.size + 1, 0, none⟩ (ji id)).setCell ⟨w.heap.size + 1, 1, none⟩ (.slice (some (ja g 0)) L.length capN)) (.slice (some (ja g 0)) L.length capN) ((List.range L.length).map f) := (M.base (by omega)).keep fun g' e => by
    obtain rfl : g = g' := by simpa [Value.ownBlock] using e
    rw [AF (by show g ≠ w.heap.size + 1; omega), AF (by show g ≠ w.heap.size + 1; omega)]
   have hDl : D.length = L.length := by rw [hD2.out]; simp
   replace hDl : Hid _ := hDl;obtain ⟨⟨p0, p1⟩, _⟩ := RP;go_wp2
   refine bodyPost_ret (v := .agg #[ji id, .slice (some (ja g 0)) L.length capN]) (by simp [results, results126, go_sem, *]) rfl ⟨_, _, by rw [hDl.out], by rw [hDl.out, hD2.out]; exact OZ, BZ⟩
end Go.Proofs.YtjmnaeeknomiaaaGreat
