import Derived.Test.YtnpiljegdiconabGreatQKWBr3
namespace Go.Proofs.YtnpiljegdiconabGreat
open Go.ChangeShapes Go.WideShapes Go.ChangeAt Go.RowKit
open Go.ChangeMaps (open_string shut_string)
set_option linter.unusedVariables false
set_option maxRecDepth 100000
def oI (o : Option Nat) : Int := match o with
 | none => -1
 | some k => (k : Int)
theorem best_no {id : Int} {L : List Pt} {k : Nat} {h : Pt} (hh : L.getD k Pt.nil = h) (hc : cand id h = false) : bestTo id L (k + 1) = bestTo id L k := by
 simp only [bestTo, hh, hc]
 cases bestTo id L k <;> simp
theorem best_none {id : Int} {L : List Pt} {k : Nat} {h : Pt} (hb : bestTo id L k = none) (hh : L.getD k Pt.nil = h) (hc : cand id h = true) : bestTo id L (k + 1) = some k := by
 simp only [bestTo, hb, hh, hc]
 simp
theorem best_some {id : Int} {L : List Pt} {k j : Nat} {h g : Pt} {t : Bool} (hb : bestTo id L k = some j) (hh : L.getD k Pt.nil = h) (hg : L.getD j Pt.nil = g) (hc : cand id h = true) (ht : vBetter h g = t) : bestTo id L (k + 1) = if t then some k else some j := by
 simp only [bestTo, hb, hh, hg, hc, ht]
 simp
set_option maxHeartbeats 8000000 in
theorem rootPI (id : Int) (ad : Option Addr) (cap : Nat) (L : List Pt) (w : World) (hv : FView ptEnc w ad L) (hl : L.length ≤ 1048576) :
  Calls Tryz.prog 139 #[.agg #[.int .i64 id, .slice ad L.length cap]] w fun e w' => e = .returned (.tuple #[.int .i64 (oI (rootO id L)), .bool (rootO id L).isSome]) ∧ Below w.heap.size w w' := by
 have hB := hv.lt ptEnc_len (by omega)
 obtain ⟨y, hy⟩ := mk_ (w.alloc (Obj.cells #[.int .i64 id, .slice ad L.length cap] 69))
 have B0 : Below w.heap.size w y := by rw [hy]; exact below_new _
 have A0 : BrAt y w.heap.size id (.slice ad L.length cap) := by rw [hy]; exact BrAt.new w _ _ _
 have S0 := A0.lt
 have hv1 := hv.below B0 hB
 have hB1 := hv1.lt ptEnc_len (by omega)
 obtain ⟨O, hO⟩ := mk_ (rootO id L)
 rw [← hO]
 replace hO : Hid _ := hO
 go_enter Tryz.func139, Tryz.ntmps139
 go_wp2_with fail
 go_at_call 90
 rw [← hy]
 clear hy hv hB
 refine (bOkI id ad cap L y hv1 hl).mono ?_
 rintro e w1 ⟨rfl, k1⟩
 have B1 : Below w.heap.size w w1 := B0.trans (k1.mono B0.size)
 have A1 := A0.below k1 S0
 have S1 := A1.lt
 cases hb : bOk id L with
 | false =>
  have hN : Hid (O = none) := by unfold Hid; rw [hO.out]; unfold rootO; rw [hb]; rfl
  clear hO
  go_wp2
  refine bodyPost_ret (by simp [results, Tryz.results139, go_sem]; rfl) rfl ⟨by rw [hN.out]; rfl, B1⟩
 | true =>
  have hlen := (bOk_all hb).2.1
  have hall : Hid (∀ i, pOk (L.getD i Pt.nil) = true) := (bOk_all hb).2.2
  have hN : Hid (O = bestTo id L L.length) := by unfold Hid; rw [hO.out]; unfold rootO; rw [hb]; rfl
  have hv2 := hv1.below k1 hB1
  have hB2 := hv2.lt ptEnc_len (by omega)
  clear hO hv1 hB1 k1 hb A0
  obtain ⟨a0, a1⟩ := A1
  have A1 : BrAt w1 w.heap.size id (.slice ad L.length cap) := ⟨a0, a1⟩
  go_wp2
  clear a0 a1
  go_loopw [4, 14] (fun q i wr => ∃ k : Nat, k ≤ L.length ∧ i = .int .i64 (k : Int) ∧ q = .int .i64 (oI (bestTo id L k)) ∧ Below w1.heap.size w1 wr) (fun _ i _ => L.length - (intOf i).toNat)
  case atStart => exact ⟨0, Nat.zero_le _, rfl, rfl, Below.refl _ _⟩
  case round =>
   obtain ⟨k, hk, rfl, rfl, hbr⟩ := hrel
   have A2 := A1.below hbr (by omega)
   obtain ⟨a0, a1⟩ := A2
   by_cases hlt : k < L.length
   ·
    obtain ⟨bk, off, rfl, _⟩ := hv2 (by omega)
    obtain ⟨h, hh⟩ : ∃ h, L.getD k Pt.nil = h := ⟨_, rfl⟩
    have hv3 := hv2.below hbr hB2
    have hck : PtAtO wr bk (off + k * 11) h := by
     rw [← hh]
     exact ptAtO_of (hv3.at_ ptEnc_len Pt.nil hlt)
    have hok : pOk h = true := by rw [← hh]; exact hall.out k
    have hcu : Hid ((h.up && cand id h) = cand id h) := cand_up (id := id) hok
    replace hh : Hid _ := hh
    obtain ⟨q, hq⟩ := mk_ (oI (bestTo id L k))
    rw [← hq]
    replace hq : Hid _ := hq
    obtain ⟨c0, c1, c2, c3, c4, c5, c6, c7, c8, c9, c10⟩ := hck
    obtain ⟨y3, hy3⟩ := mk_ (wr.alloc (Obj.cells #[.bool h.up, .bool h.has, .int .i64 h.r, .int .i64 h.c, .int .i64 h.b, .int .i64 h.p, .int .i64 h.h, .int .i64 h.l, .int .i64 h.ro, .int .i64 h.wa, .bool h.op] 113))
    have P3 : PtAt y3 wr.heap.size h := by rw [hy3]; exact ptAt_box wr _ _
    have A3 : BrAt y3 w.heap.size id (.slice (some ⟨bk, off, none⟩) L.length cap) := by rw [hy3]; exact BrAt.alloc ⟨a0, a1⟩ _
    have kn : Below wr.heap.size wr y3 := by rw [hy3]; exact below_new _
    have Bb : Below w1.heap.size w1 y3 := hbr.trans (kn.mono hbr.size)
    have hv3 := hv3.below kn (hv3.lt ptEnc_len (by omega))
    have S3 : wr.heap.size < y3.heap.size := P3.lt
    have S4 := hbr.size
    go_upto_region 7 with fail
    rw [← hy3]
    clear hy3 a0 a1 c0 c1 c2 c3 c4 c5 c6 c7 c8 c9 c10
    generalize wr.heap.size = Q at P3 S3 S4 kn ⊢
    clear kn
    cases hc : cand id h with
    | false =>
     have hcf : (h.up && cand id h) = false := by rw [hcu.out]; exact hc
     replace hc : Hid _ := hc
     refine wp_region_held (S := fun Y => Below y3.heap.size y3 Y) (by kernel_rfl) ?_
     change wpAnyH _ _ _ _ _ _ _ _ (World.drew _)
     have hb0 : Below y3.heap.size y3 y3.drew := (Below.refl _ _).drew
     obtain ⟨u0, hy0⟩ := mk_ y3.drew
     rw [← hy0] at hb0 ⊢
     clear hy0
     refine tw 0 19 (.pointer (some ⟨w.heap.size, 0, none⟩)) ?_
     refine tw 1 20 (.int .i64 id) ?_ (hy := by intro Y hSw; obtain ⟨X0, X1⟩ := A3.below hSw (by omega); go_simp)
     refine tw 2 21 (.agg #[.bool h.up, .bool h.has, .int .i64 h.r, .int .i64 h.c, .int .i64 h.b, .int .i64 h.p, .int .i64 h.h, .int .i64 h.l, .int .i64 h.ro, .int .i64 h.wa, .bool h.op]) ?_ (hy := by intro Y hSw; obtain ⟨X0, X1, X2, X3, X4, X5, X6, X7, X8, X9, X10⟩ := P3.below hSw (by omega); go_simp)
     refine wpAnyH_all (rs := [3]) (by kernel_rfl) (by simp) ?_
     intro i hi; obtain rfl : i = 3 := by simpa using hi
     refine wpOp_step rfl (fun K hK => ?_)
     rw [if_pos (by kernel_rfl)]
     go_simp
     go_at_call 154
     refine (canFI id h u0).mono ?_
     rintro e u1 ⟨rfl, kq⟩
     have hb1 : Below y3.heap.size y3 u1 := hb0.trans (kq.mono hb0.size)
     clear kq
     rw [hcf]
     refine hK _ _ ⟨hb1, ?_⟩
     clear hK K hi
     refine tw 4 23 (.bool false) ?_
     refine ts 5 24 ?_
     refine ts 6 25 ?_
     refine ts 7 26 ?_
     refine ts 8 27 ?_
     refine ts 9 28 ?_
     refine ts 10 29 ?_
     refine ts 11 30 ?_
     refine ts 12 31 ?_
     refine ts 13 32 ?_
     refine ts 14 33 ?_
     refine ts 15 34 ?_
     refine ts 16 35 ?_
     refine ts 17 36 ?_
     refine tw 18 37 (.bool false) ?_
     refine wpAnyH_done (by kernel_rfl) ?_ _
     go_wp2
     go_roundw
     case rel => exact ⟨k + 1, by omega, by go_num, by rw [hq.out, best_no hh.out hc.out], Bb.trans (hb1.mono Bb.size)⟩
     case measure => simp [intOf]; omega
    | true =>
     have hcf : (h.up && cand id h) = true := by rw [hcu.out]; exact hc
     replace hc : Hid _ := hc
     cases hbt : bestTo id L k with
     | none =>
      obtain rfl : q = -1 := by rw [hq.out, hbt]; rfl
      replace hbt : Hid _ := hbt
      clear hq
      refine wp_region_held (S := fun Y => Below y3.heap.size y3 Y) (by kernel_rfl) ?_
      change wpAnyH _ _ _ _ _ _ _ _ (World.drew _)
      have hb0 : Below y3.heap.size y3 y3.drew := (Below.refl _ _).drew
      obtain ⟨u0, hy0⟩ := mk_ y3.drew
      rw [← hy0] at hb0 ⊢
      clear hy0
      refine tw 0 19 (.pointer (some ⟨w.heap.size, 0, none⟩)) ?_
      refine tw 1 20 (.int .i64 id) ?_ (hy := by intro Y hSw; obtain ⟨X0, X1⟩ := A3.below hSw (by omega); go_simp)
      refine tw 2 21 (.agg #[.bool h.up, .bool h.has, .int .i64 h.r, .int .i64 h.c, .int .i64 h.b, .int .i64 h.p, .int .i64 h.h, .int .i64 h.l, .int .i64 h.ro, .int .i64 h.wa, .bool h.op]) ?_ (hy := by intro Y hSw; obtain ⟨X0, X1, X2, X3, X4, X5, X6, X7, X8, X9, X10⟩ := P3.below hSw (by omega); go_simp)
      refine wpAnyH_all (rs := [3]) (by kernel_rfl) (by simp) ?_
      intro i hi; obtain rfl : i = 3 := by simpa using hi
      refine wpOp_step rfl (fun K hK => ?_)
      rw [if_pos (by kernel_rfl)]
      go_simp
      go_at_call 154
      refine (canFI id h u0).mono ?_
      rintro e u1 ⟨rfl, kq⟩
      have hb1 : Below y3.heap.size y3 u1 := hb0.trans (kq.mono hb0.size)
      clear kq
      rw [hcf]
      refine hK _ _ ⟨hb1, ?_⟩
      clear hK K hi
      refine tw 4 23 (.bool true) ?_
      refine tw 5 24 (.int .i64 (-1)) ?_
      refine tw 6 25 (.bool true) ?_ (hy := by intro Y hSw; go_simp)
      refine tw 7 26 (.bool true) ?_
      refine ts 8 27 ?_
      refine ts 9 28 ?_
      refine ts 10 29 ?_
      refine ts 11 30 ?_
      refine ts 12 31 ?_
      refine ts 13 32 ?_
      refine ts 14 33 ?_
      refine ts 15 34 ?_
      refine ts 16 35 ?_
      refine tw 17 36 (.bool true) ?_
      refine tw 18 37 (.bool true) ?_
      refine wpAnyH_done (by kernel_rfl) ?_ _
      go_wp2
      go_roundw
      case rel => exact ⟨k + 1, by omega, by go_num, by rw [best_none hbt.out hh.out hc.out]; rfl, Bb.trans (hb1.mono Bb.size)⟩
      case measure => simp [intOf]; omega
     | some j =>
      obtain rfl : q = (j : Int) := by rw [hq.out, hbt]; rfl
      have hj := (bestTo_some hbt).1
      replace hbt : Hid _ := hbt
      clear hq
      have dj : decide ((j : Int) < 0) = false := decide_eq_false (by omega)
      have hjl : j < L.length := by omega
      obtain ⟨g, hgg⟩ : ∃ g, L.getD j Pt.nil = g := ⟨_, rfl⟩
      have hg : ∀ Y, Below y3.heap.size y3 Y → PtAtO Y bk (off + j * 11) g := fun Y hY => by rw [← hgg]; exact ptAtO_of ((hv3.below hY (hv3.lt ptEnc_len (by omega))).at_ ptEnc_len Pt.nil hjl)
      replace hgg : Hid _ := hgg
      obtain ⟨t, ht⟩ : ∃ t, vBetter h g = t := ⟨_, rfl⟩
      have ht' : vLt h.r h.c h.b h.p g.r g.c g.b g.p = t := ht
      replace ht : Hid _ := ht
      replace ht' : Hid _ := ht'
      cases t
      ·
       refine wp_region_held (S := fun Y => Below y3.heap.size y3 Y) (by kernel_rfl) ?_
       change wpAnyH _ _ _ _ _ _ _ _ (World.drew _)
       have hb0 : Below y3.heap.size y3 y3.drew := (Below.refl _ _).drew
       obtain ⟨u0, hy0⟩ := mk_ y3.drew
       rw [← hy0] at hb0 ⊢
       clear hy0
       refine tw 0 19 (.pointer (some ⟨w.heap.size, 0, none⟩)) ?_
       refine tw 1 20 (.int .i64 id) ?_ (hy := by intro Y hSw; obtain ⟨X0, X1⟩ := A3.below hSw (by omega); go_simp)
       refine tw 2 21 (.agg #[.bool h.up, .bool h.has, .int .i64 h.r, .int .i64 h.c, .int .i64 h.b, .int .i64 h.p, .int .i64 h.h, .int .i64 h.l, .int .i64 h.ro, .int .i64 h.wa, .bool h.op]) ?_ (hy := by intro Y hSw; obtain ⟨X0, X1, X2, X3, X4, X5, X6, X7, X8, X9, X10⟩ := P3.below hSw (by omega); go_simp)
       refine wpAnyH_all (rs := [3]) (by kernel_rfl) (by simp) ?_
       intro i hi; obtain rfl : i = 3 := by simpa using hi
       refine wpOp_step rfl (fun K hK => ?_)
       rw [if_pos (by kernel_rfl)]
       go_simp
       go_at_call 154
       refine (canFI id h u0).mono ?_
       rintro e u1 ⟨rfl, kq⟩
       have hb1 : Below y3.heap.size y3 u1 := hb0.trans (kq.mono hb0.size)
       clear kq
       rw [hcf]
       refine hK _ _ ⟨hb1, ?_⟩
       clear hK K hi
       refine tw 4 23 (.bool true) ?_
       refine tw 5 24 (.int .i64 (j : Int)) ?_
       refine tw 6 25 (.bool false) ?_ (hy := by intro Y hSw; go_simp)
       refine tw 7 26 (.bool false) ?_
       refine tw 8 27 (.pointer (some ⟨Q, 2, none⟩)) ?_
       refine tw 9 28 (.agg #[.int .i64 h.r, .int .i64 h.c, .int .i64 h.b, .int .i64 h.p]) ?_ (hy := by intro Y hSw; obtain ⟨X0, X1, X2, X3, X4, X5, X6, X7, X8, X9, X10⟩ := P3.below hSw (by omega); go_simp)
       refine tw 10 29 (.pointer (some ⟨w.heap.size, 1, none⟩)) ?_
       refine tw 11 30 (.slice (some ⟨bk, off, none⟩) L.length cap) ?_ (hy := by intro Y hSw; obtain ⟨X0, X1⟩ := A3.below hSw (by omega); go_simp)
       refine tw 12 31 (.int .i64 (j : Int)) ?_
       refine tw 13 32 (.pointer (some ⟨bk, off + j * 11, none⟩)) ?_ (hy := by intro Y hSw; go_simp; try omega)
       refine tw 14 33 (.pointer (some ⟨bk, off + j * 11 + 2, none⟩)) ?_
       refine tw 15 34 (.agg #[.int .i64 g.r, .int .i64 g.c, .int .i64 g.b, .int .i64 g.p]) ?_ (hy := by intro Y hSw; obtain ⟨X0, X1, X2, X3, X4, X5, X6, X7, X8, X9, X10⟩ := hg Y hSw; go_simp)
       refine wpAnyH_all (rs := [16]) (by kernel_rfl) (by simp) ?_
       intro i hi; obtain rfl : i = 16 := by simpa using hi
       refine wpOp_step rfl (fun K hK => ?_)
       rw [if_pos (by kernel_rfl)]
       go_simp
       go_at_call 151
       refine (betterI h.r h.c h.b h.p g.r g.c g.b g.p u1).mono ?_
       rintro e u2 ⟨rfl, kq⟩
       have hb2 : Below y3.heap.size y3 u2 := hb1.trans (kq.mono hb1.size)
       clear kq
       rw [ht'.out]
       refine hK _ _ ⟨hb2, ?_⟩
       clear hK K hi
       refine tw 17 36 (.bool false) ?_
       refine tw 18 37 (.bool false) ?_
       refine wpAnyH_done (by kernel_rfl) ?_ _
       go_wp2
       go_roundw
       case rel => exact ⟨k + 1, by omega, by go_num, by rw [best_some hbt.out hh.out hgg.out hc.out ht.out]; rfl, Bb.trans (hb2.mono Bb.size)⟩
       case measure => simp [intOf]; omega
      ·
       refine wp_region_held (S := fun Y => Below y3.heap.size y3 Y) (by kernel_rfl) ?_
       change wpAnyH _ _ _ _ _ _ _ _ (World.drew _)
       have hb0 : Below y3.heap.size y3 y3.drew := (Below.refl _ _).drew
       obtain ⟨u0, hy0⟩ := mk_ y3.drew
       rw [← hy0] at hb0 ⊢
       clear hy0
       refine tw 0 19 (.pointer (some ⟨w.heap.size, 0, none⟩)) ?_
       refine tw 1 20 (.int .i64 id) ?_ (hy := by intro Y hSw; obtain ⟨X0, X1⟩ := A3.below hSw (by omega); go_simp)
       refine tw 2 21 (.agg #[.bool h.up, .bool h.has, .int .i64 h.r, .int .i64 h.c, .int .i64 h.b, .int .i64 h.p, .int .i64 h.h, .int .i64 h.l, .int .i64 h.ro, .int .i64 h.wa, .bool h.op]) ?_ (hy := by intro Y hSw; obtain ⟨X0, X1, X2, X3, X4, X5, X6, X7, X8, X9, X10⟩ := P3.below hSw (by omega); go_simp)
       refine wpAnyH_all (rs := [3]) (by kernel_rfl) (by simp) ?_
       intro i hi; obtain rfl : i = 3 := by simpa using hi
       refine wpOp_step rfl (fun K hK => ?_)
       rw [if_pos (by kernel_rfl)]
       go_simp
       go_at_call 154
       refine (canFI id h u0).mono ?_
       rintro e u1 ⟨rfl, kq⟩
       have hb1 : Below y3.heap.size y3 u1 := hb0.trans (kq.mono hb0.size)
       clear kq
       rw [hcf]
       refine hK _ _ ⟨hb1, ?_⟩
       clear hK K hi
       refine tw 4 23 (.bool true) ?_
       refine tw 5 24 (.int .i64 (j : Int)) ?_
       refine tw 6 25 (.bool false) ?_ (hy := by intro Y hSw; go_simp)
       refine tw 7 26 (.bool false) ?_
       refine tw 8 27 (.pointer (some ⟨Q, 2, none⟩)) ?_
       refine tw 9 28 (.agg #[.int .i64 h.r, .int .i64 h.c, .int .i64 h.b, .int .i64 h.p]) ?_ (hy := by intro Y hSw; obtain ⟨X0, X1, X2, X3, X4, X5, X6, X7, X8, X9, X10⟩ := P3.below hSw (by omega); go_simp)
       refine tw 10 29 (.pointer (some ⟨w.heap.size, 1, none⟩)) ?_
       refine tw 11 30 (.slice (some ⟨bk, off, none⟩) L.length cap) ?_ (hy := by intro Y hSw; obtain ⟨X0, X1⟩ := A3.below hSw (by omega); go_simp)
       refine tw 12 31 (.int .i64 (j : Int)) ?_
       refine tw 13 32 (.pointer (some ⟨bk, off + j * 11, none⟩)) ?_ (hy := by intro Y hSw; go_simp; try omega)
       refine tw 14 33 (.pointer (some ⟨bk, off + j * 11 + 2, none⟩)) ?_
       refine tw 15 34 (.agg #[.int .i64 g.r, .int .i64 g.c, .int .i64 g.b, .int .i64 g.p]) ?_ (hy := by intro Y hSw; obtain ⟨X0, X1, X2, X3, X4, X5, X6, X7, X8, X9, X10⟩ := hg Y hSw; go_simp)
       refine wpAnyH_all (rs := [16]) (by kernel_rfl) (by simp) ?_
       intro i hi; obtain rfl : i = 16 := by simpa using hi
       refine wpOp_step rfl (fun K hK => ?_)
       rw [if_pos (by kernel_rfl)]
       go_simp
       go_at_call 151
       refine (betterI h.r h.c h.b h.p g.r g.c g.b g.p u1).mono ?_
       rintro e u2 ⟨rfl, kq⟩
       have hb2 : Below y3.heap.size y3 u2 := hb1.trans (kq.mono hb1.size)
       clear kq
       rw [ht'.out]
       refine hK _ _ ⟨hb2, ?_⟩
       clear hK K hi
       refine tw 17 36 (.bool true) ?_
       refine tw 18 37 (.bool true) ?_
       refine wpAnyH_done (by kernel_rfl) ?_ _
       go_wp2
       go_roundw
       case rel => exact ⟨k + 1, by omega, by go_num, by rw [best_some hbt.out hh.out hgg.out hc.out ht.out]; rfl, Bb.trans (hb2.mono Bb.size)⟩
       case measure => simp [intOf]; omega
   ·
    obtain rfl : k = L.length := by omega
    have BF := B1.trans (hbr.mono B1.size)
    cases hbt : bestTo id L L.length with
    | none =>
     have hN2 : Hid (O = none) := by unfold Hid; rw [hN.out, hbt]
     simp only [oI]
     clear hN hbt
     go_wp2
     refine bodyPost_ret (by simp [results, Tryz.results139, go_sem]; rfl) rfl ⟨by rw [hN2.out]; rfl, BF⟩
    | some j =>
     have hN2 : Hid (O = some j) := by unfold Hid; rw [hN.out, hbt]
     have dj : decide (0 ≤ (j : Int)) = true := decide_eq_true (by omega)
     simp only [oI]
     clear hN hbt
     go_wp2
     refine bodyPost_ret (by simp [results, Tryz.results139, go_sem]; rfl) rfl ⟨by rw [hN2.out]; rfl, BF⟩
end Go.Proofs.YtnpiljegdiconabGreat
