import Derived.Test.YtnpiljegdiconabGreatQM6
namespace Go.Proofs.YtnpiljegdiconabGreat
open Go.ChangeShapes Go.WideShapes Go.ChangeAt Go.RowKit
open Go.ChangeMaps (open_string shut_string)
set_option linter.unusedVariables false
set_option maxRecDepth 100000
set_option maxHeartbeats 4000000 in
theorem toldI (id : Int) (ad : Option Addr) (cap : Nat) (L : List Pt) (w : World) (hv : FView ptEnc w ad L) (hl : L.length ≤ 4) :
  Calls Tryz.prog 97 #[.agg #[.int .i64 id, .slice ad L.length cap]] w fun e w' => ∃ adk capk, e = .returned (.slice adk (toldTo id L L.length).length capk) ∧ FOwn ouEnc 8 92 w.heap.size w' (.slice adk (toldTo id L L.length).length capk) (toldTo id L L.length) ∧ Below w.heap.size w w' := by
 obtain ⟨i0, hi, hz0, hz1, hz2⟩ := info_parts ouInfo
 have hB := hv.lt ptEnc_len (by omega)
 obtain ⟨y, hy⟩ := mk_ (w.alloc (Obj.cells #[.int .i64 id, .slice ad L.length cap] 69))
 have B0 : Below w.heap.size w y := by rw [hy]; exact below_new _
 have A0 : BrAt y w.heap.size id (.slice ad L.length cap) := by rw [hy]; exact BrAt.new w _ _ _
 have S0 := A0.lt
 have hv1 := hv.below B0 hB
 have hB1 := hv1.lt ptEnc_len (by omega)
 clear hv hB
 go_enter Tryz.func97, Tryz.ntmps97
 go_upto_region 2 with fail
 rw [← hy]
 clear hy
 obtain ⟨a0, a1⟩ := A0
 have A0 : BrAt y w.heap.size id (.slice ad L.length cap) := ⟨a0, a1⟩
 go_wp2
 clear a0 a1
 go_loopw [3, 9] (fun v i wr => ∃ k : Nat, k ≤ L.length ∧ i = .int .i64 (k : Int) ∧ FOwn ouEnc 8 92 y.heap.size wr v (toldTo id L k) ∧ Below y.heap.size y wr) (fun _ i _ => L.length - (intOf i).toNat)
 case atStart => exact ⟨0, Nat.zero_le _, rfl, FOwn.nil, Below.refl _ _⟩
 case round =>
  obtain ⟨k, hk, rfl, O, K⟩ := hrel
  obtain ⟨adk, capk, rfl⟩ := O.open_
  have A2 := A0.below K S0
  have K2 := A2
  obtain ⟨a0, a1⟩ := K2
  by_cases hlt : k < L.length
  ·
   have hv2 := hv1.below K hB1
   obtain ⟨bk, off, rfl, _⟩ := hv2 (by omega)
   obtain ⟨h, hh⟩ : ∃ h, L.getD k Pt.nil = h := ⟨_, rfl⟩
   obtain ⟨c0, c1, c2, c3, c4, c5, c6, c7, c8, c9, c10⟩ : PtAtO wr bk (off + k * 11) h := by rw [← hh]; exact ptAtO_of (hv2.at_ ptEnc_len Pt.nil hlt)
   replace hh : Hid _ := hh
   have gl := told_len id L k
   obtain ⟨G, hG⟩ : ∃ G, toldTo id L k = G := ⟨_, rfl⟩
   rw [hG] at O gl ⊢
   replace hG : Hid _ := hG
   obtain ⟨y3, hy3⟩ := mk_ (wr.alloc (Obj.cells #[.bool h.up, .bool h.has, .int .i64 h.r, .int .i64 h.c, .int .i64 h.b, .int .i64 h.p, .int .i64 h.h, .int .i64 h.l, .int .i64 h.ro, .int .i64 h.wa, .bool h.op] 113))
   have P3 : PtAt y3 wr.heap.size h := by rw [hy3]; exact ptAt_box wr _ _
   have kn : Below wr.heap.size wr y3 := by rw [hy3]; exact below_new _
   have A3 := A2.below kn A2.lt
   have O3 := O.later kn
   have K3 := K.trans (kn.mono K.size)
   have hv3 := hv2.below kn (hv2.lt ptEnc_len (by omega))
   have hB3 := hv3.lt ptEnc_len (by omega)
   have S3 := P3.lt
   have S4 := K.size
   go_upto_region 5 with fail
   rw [← hy3]
   clear hy3 a0 a1 c0 c1 c2 c3 c4 c5 c6 c7 c8 c9 c10 kn O hv2 A2
   generalize wr.heap.size = Q at P3 S3 S4 ⊢
   obtain ⟨c0, c1, c2, c3, c4, c5, c6, c7, c8, c9, c10⟩ := P3
   by_cases ho : h.ro = 2
   ·
    have dq : (h.ro == 2) = true := by simpa using ho
    obtain ⟨⟨v1, v2, v3, v4⟩, hov⟩ : ∃ v, ownR id L k = v := ⟨_, rfl⟩
    obtain ⟨hq, hhq⟩ : ∃ v, hopsR id L = v := ⟨_, rfl⟩
    have hN : Hid (toldTo id L (k + 1) = G ++ [(⟨1, (k : Int), v1, v2, v3, v4, hq, false⟩ : Ou)]) := by unfold Hid; rw [told_yes hh.out ho, hG.out]; unfold toldO; rw [hov, hhq]
    replace ho : Hid _ := ho
    replace hov : Hid _ := hov
    replace hhq : Hid _ := hhq
    have hiT := hi
    go_upto_region 6 with fail
    clear c0 c1 c2 c3 c4 c5 c6 c7 c8 c9 c10
    refine wp_region_held (S := fun Y => Below y.heap.size y Y) (by kernel_rfl) ?_
    change wpAnyH _ _ _ _ _ _ _ _ (World.drew _)
    have hb0 : Below y.heap.size y y3.drew := K3.drew
    have ha0 : Below y3.heap.size y3 y3.drew := (Below.refl _ _).drew
    obtain ⟨u0, hy0⟩ := mk_ y3.drew
    rw [← hy0] at hb0 ha0 ⊢
    clear hy0
    refine tw 0 17 (.slice adk G.length capk) ?_
    refine tw 1 18 (.int .i64 (k : Int)) ?_
    refine tw 2 19 (.agg #[.int .i64 id, .slice (some ⟨bk, off, none⟩) L.length cap]) ?_ (hy := by intro Y hSw; obtain ⟨X0, X1⟩ := A0.below hSw A0.lt; go_simp)
    refine tw 3 20 (.int .i64 (k : Int)) ?_
    refine tw 5 22 (.agg #[.int .i64 id, .slice (some ⟨bk, off, none⟩) L.length cap]) ?_ (hy := by intro Y hSw; obtain ⟨X0, X1⟩ := A0.below hSw A0.lt; go_simp)
    refine wpAnyH_all (rs := [4]) (by kernel_rfl) (by simp) ?_
    intro i hi; obtain rfl : i = 4 := by simpa using hi
    refine wpOp_step rfl (fun K hK => ?_)
    rw [if_pos (by kernel_rfl)]
    go_simp
    go_at_call 119
    refine (ownI id (some ⟨bk, off, none⟩) cap L (k : Int) u0 (hv1.below hb0 hB1) (by omega)).mono ?_
    rintro e u1 ⟨rfl, kq⟩
    have hb1 : Below y.heap.size y u1 := hb0.trans (kq.mono hb0.size)
    have ha1 : Below y3.heap.size y3 u1 := ha0.trans (kq.mono ha0.size)
    clear kq
    rw [hov.out]
    refine hK _ _ ⟨hb1, ?_⟩
    clear hK K hi
    refine wpAnyH_all (rs := [6]) (by kernel_rfl) (by simp) ?_
    intro i hi; obtain rfl : i = 6 := by simpa using hi
    refine wpOp_step rfl (fun K hK => ?_)
    rw [if_pos (by kernel_rfl)]
    go_simp
    go_at_call 120
    refine (hopsI id (some ⟨bk, off, none⟩) cap L u1 (hv1.below hb1 hB1) (by omega)).mono ?_
    rintro e u2 ⟨rfl, kq⟩
    have hb2 : Below y.heap.size y u2 := hb1.trans (kq.mono hb1.size)
    have ha2 : Below y3.heap.size y3 u2 := ha1.trans (kq.mono ha1.size)
    clear kq
    rw [hhq.out]
    refine hK _ _ ⟨hb2, ?_⟩
    clear hK K hi
    refine tw 7 24 (.agg #[.int .i64 1, .int .i64 (k : Int), .int .i64 v1, .int .i64 v2, .int .i64 v3, .int .i64 v4, .int .i64 hq, .bool false]) ?_
    refine wpAnyH_all (rs := [8]) (by kernel_rfl) (by simp) ?_
    intro i hi; obtain rfl : i = 8 := by simpa using hi
    refine wpOp_step rfl (fun K_ hK_ => ?_)
    rw [if_pos (by kernel_rfl)]
    go_simp
    obtain ⟨u3, hu3⟩ := mk_ (u2.alloc (Obj.cells #[.int .i64 1, .int .i64 (k : Int), .int .i64 v1, .int .i64 v2, .int .i64 v3, .int .i64 v4, .int .i64 hq, .bool false] 92))
    have V1 : FView ouEnc u3 (some ⟨u2.heap.size, 0, none⟩) [(⟨1, (k : Int), v1, v2, v3, v4, hq, false⟩ : Ou)] := by rw [hu3]; exact FView.oneO u2 92 ⟨1, (k : Int), v1, v2, v3, v4, hq, false⟩
    have kq : Below u2.heap.size u2 u3 := by rw [hu3]; exact below_new _
    have hb3 : Below y.heap.size y u3 := hb2.trans (kq.mono hb2.size)
    have ha3 : Below y3.heap.size y3 u3 := ha2.trans (kq.mono ha2.size)
    clear kq
    rw [← hu3]
    clear hu3
    generalize u2.heap.size = E at V1 ⊢
    refine hK_ _ _ ⟨hb3, ?_⟩
    clear hK_ K_ hi
    have O2 : FOwn ouEnc 8 92 y.heap.size u3 (.slice adk G.length capk) G := O3.later ha3
    have S5 : y.heap.size ≤ u3.heap.size := hb3.size
    refine wpAnyH_all (rs := [9]) (by kernel_rfl) (by simp) ?_
    intro i hi; obtain rfl : i = 9 := by simpa using hi
    refine wpOp_step rfl (fun K_ hK_ => ?_)
    rw [if_pos (by kernel_rfl)]
    refine fapp ouEnc_len ouEnc_ones 26 _ _ 37 rfl rfl y.heap.size 92 i0 (.agg #[.int .i64 0, .int .i64 0, .int .i64 0, .int .i64 0, .int .i64 0, .int .i64 0, .int .i64 0, .bool false]) 64 Tryz.underlying37 hiT hz0 hz1 hz2 rfl (by decide) (by decide) (.slice adk G.length capk) G rfl O2 (some ⟨E, 0, none⟩) 1 [(⟨1, (k : Int), v1, v2, v3, v4, hq, false⟩ : Ou)] rfl (fun e => by cases e) V1 (by simp; omega) S5 ?_
    intro vZ wZ hownZ hgrowZ _
    have KZ : Below y.heap.size y wZ := hb3.grown hgrowZ S5 (fun g_ e => (O2.lt g_ e).1)
    clear hgrowZ V1 O2
    simp only [List.set_cons_zero, List.set_cons_succ]
    refine hK_ _ _ ⟨KZ, ?_⟩
    clear hK_ K_ hi
    refine tw 10 3 vZ ?_
    refine wpAnyH_done (by kernel_rfl) ?_ _
    clear O3 ha0 ha1 ha2 ha3 hb0 hb1 hb2 hb3
    go_wp2
    go_roundw
    case rel => exact ⟨k + 1, by omega, by go_num, by rw [hN.out]; exact hownZ, KZ⟩
    case measure => simp [intOf]; omega
   ·
    have dq : (h.ro == 2) = false := by simpa using ho
    have hN : Hid (toldTo id L (k + 1) = G) := by unfold Hid; rw [told_no hh.out ho, hG.out]
    replace ho : Hid _ := ho
    go_wp2
    go_roundw
    case rel => exact ⟨k + 1, by omega, by go_num, by rw [hN.out]; exact O3, K3⟩
    case measure => simp [intOf]; omega
  ·
   obtain rfl : k = L.length := by omega
   have BZ := B0.trans (K.mono B0.size)
   have OZ := O.base B0.size
   go_wp2
   go_ret
   exact ⟨_, _, rfl, OZ, BZ⟩
end Go.Proofs.YtnpiljegdiconabGreat
