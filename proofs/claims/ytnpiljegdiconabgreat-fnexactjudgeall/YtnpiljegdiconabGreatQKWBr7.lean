import Derived.Test.YtnpiljegdiconabGreatQM5
namespace Go.Proofs.YtnpiljegdiconabGreat
open Go.ChangeShapes Go.WideShapes Go.ChangeAt Go.RowKit
open Go.ChangeMaps (open_string shut_string)
set_option linter.unusedVariables false
set_option maxRecDepth 100000
structure Bar (g B : Nat) (a w : World) : Prop where
 size : a.heap.size ≤ w.heap.size
 block : ∀ k, k < B → k ≠ g → w.heap[k]? = a.heap[k]?
theorem Bar.of {g B : Nat} {a w : World} (h : Below B a w) : Bar g B a w := ⟨h.size, fun k hk _ => h.block k hk⟩
theorem Bar.putAll {g B o : Nat} {a w : World} (vs : List Value) (h : Bar g B a w) : Bar g B a (putAll w g o vs) :=
 ⟨by rw [size_putAll]; exact h.size, fun k hk hne => by rw [heap_putAll _ _ _ _ hne]; exact h.block k hk hne⟩
theorem PtAt.bar {g B q : Nat} {a w : World} {x : Pt} (h : PtAt a q x) (k : Bar g B a w) (hq : q < B) (hne : q ≠ g) : PtAt w q x := h.keep (k.block q hq hne)
theorem BrAt.bar {g B q : Nat} {a w : World} {id : Int} {v : Value} (h : BrAt a q id v) (k : Bar g B a w) (hq : q < B) (hne : q ≠ g) : BrAt w q id v := h.keep (k.block q hq hne)
theorem turnR_up (x : Pt) (role : Int) : turnR x role = turnUp x role := by
 unfold turnUp
 cases hu : x.up
 ·
  unfold turnR; rw [hu]; simp
 ·
  simp
theorem FOwn.row {X : Type} {enc : X → List Value} {n : Nat} {T : TypeId} {base : Nat} {w : World} {ad : Option Addr} {len cap : Nat} {L : List X} (h : FOwn enc n T base w (.slice ad len cap) L) (h0 : 0 < L.length) : ∃ g, ad = some ⟨g, 0, none⟩ ∧ base ≤ g ∧ g < w.heap.size := by
 rcases h.2 with ⟨_, q⟩ | ⟨g, c, cur, q, _⟩
 ·
  omega
 ·
  simp only [Value.slice.injEq] at q
  obtain ⟨rfl, rfl, rfl⟩ := q
  have := h.lt g rfl
  exact ⟨g, rfl, this⟩
set_option maxHeartbeats 4000000 in
theorem roleAtI (id : Int) (ad : Option Addr) (cap : Nat) (L : List Pt) (k : Nat) (w : World) (hv : FView ptEnc w ad L) (hl : L.length ≤ 1048576) (hb : bOk id L = true) (hk : k < L.length) :
  Calls Tryz.prog 138 #[.agg #[.int .i64 id, .slice ad L.length cap], .int .i64 (k : Int)] w fun e w' => e = .returned (.int .i64 (roleR id L k)) ∧ Below w.heap.size w w' := by
 have hB := hv.lt ptEnc_len (by omega)
 obtain ⟨y, hy⟩ := mk_ (w.alloc (Obj.cells #[.int .i64 id, .slice ad L.length cap] 69))
 have B0 : Below w.heap.size w y := by rw [hy]; exact below_new _
 have A0 : BrAt y w.heap.size id (.slice ad L.length cap) := by rw [hy]; exact BrAt.new w _ _ _
 have S0 := A0.lt
 have hv1 := hv.below B0 hB
 have hB1 := hv1.lt ptEnc_len (by omega)
 obtain ⟨ρ, hρ⟩ := mk_ (roleR id L k)
 rw [← hρ]
 replace hρ : Hid _ := hρ
 replace hb : Hid _ := hb
 go_enter Tryz.func138, Tryz.ntmps138
 go_wp2_with fail
 go_at_call 139
 rw [← hy]
 clear hy hv hB
 refine (rootPI id ad cap L y hv1 hl).mono ?_
 rintro e w1 ⟨rfl, k1⟩
 have B1 := B0.trans (k1.mono B0.size)
 have A1 := A0.below k1 (by omega)
 have S1 := A1.lt
 have hv2 := hv1.below k1 hB1
 have hB2 := hv2.lt ptEnc_len (by omega)
 clear hv1 hB1 k1 A0 S0
 obtain ⟨q, hq⟩ := mk_ (oI (rootO id L))
 rw [← hq]
 replace hq : Hid _ := hq
 obtain ⟨iss, hiss⟩ := mk_ ((rootO id L).isSome)
 rw [← hiss]
 clear hiss
 obtain ⟨bk, off, rfl, _⟩ := hv2 (by omega)
 obtain ⟨h, hh⟩ : ∃ h, L.getD k Pt.nil = h := ⟨_, rfl⟩
 obtain ⟨c0, c1, c2, c3, c4, c5, c6, c7, c8, c9, c10⟩ : PtAtO w1 bk (off + k * 11) h := by rw [← hh]; exact ptAtO_of (hv2.at_ ptEnc_len Pt.nil hk)
 replace hh : Hid _ := hh
 obtain ⟨a0, a1⟩ := A1
 obtain ⟨y3, hy3⟩ := mk_ (w1.alloc (Obj.cells #[.bool h.up, .bool h.has, .int .i64 h.r, .int .i64 h.c, .int .i64 h.b, .int .i64 h.p, .int .i64 h.h, .int .i64 h.l, .int .i64 h.ro, .int .i64 h.wa, .bool h.op] 113))
 have P3 : PtAt y3 w1.heap.size h := by rw [hy3]; exact ptAt_box w1 _ _
 have kn : Below w1.heap.size w1 y3 := by rw [hy3]; exact below_new _
 have A3 := BrAt.below ⟨a0, a1⟩ kn (by omega)
 have B3 := B1.trans (kn.mono B1.size)
 have hv3 := hv2.below kn hB2
 have hB3 := hv3.lt ptEnc_len (by omega)
 have S3 := P3.lt
 go_upto_region 3 with fail
 rw [← hy3]
 clear hy3 a0 a1 c0 c1 c2 c3 c4 c5 c6 c7 c8 c9 c10 kn hv2 hB2 B1
 generalize w1.heap.size = Q at S1 P3 S3 ⊢
 by_cases hr : rootO id L = some k
 ·
  have hN : Hid (ρ = 1) := by unfold Hid; rw [hρ.out]; unfold roleR; rw [if_pos hr]
  have dk : ((k : Int) == q) = true := by rw [hq.out, hr]; simp [oI]
  clear hρ hq hr
  go_wp2
  go_ret
  exact ⟨by rw [hN.out]; rfl, B3⟩
 have dk : ((k : Int) == q) = false := by
  rw [hq.out]
  cases ho : rootO id L with
  | none => simp only [oI, beq_eq_false_iff_ne, ne_eq]; omega
  | some j =>
   simp only [oI, beq_eq_false_iff_ne, ne_eq]
   intro e
   apply hr
   rw [ho, show j = k by omega]
 have hρ2 : Hid (ρ = if h.has && vLt h.r h.c h.b h.p (ownR id L k).1 (ownR id L k).2.1 (ownR id L k).2.2.1 (ownR id L k).2.2.2 then 3 else 2) := by unfold Hid; rw [hρ.out]; unfold roleR; rw [if_neg hr, hh.out]
 clear hρ hq hr hh
 go_upto_region 5 with fail
 cases hhas : h.has with
 | false =>
  have hN : Hid (ρ = 2) := by unfold Hid; rw [hρ2.out, hhas]; rfl
  refine wp_region_held (S := fun Y => Below y3.heap.size y3 Y) (by kernel_rfl) ?_
  change wpAnyH _ _ _ _ _ _ _ _ (World.drew _)
  have hb0 : Below y3.heap.size y3 y3.drew := (Below.refl _ _).drew
  obtain ⟨u0, hy0⟩ := mk_ y3.drew
  rw [← hy0] at hb0 ⊢
  clear hy0
  refine tw 0 23 (.pointer (some ⟨Q, 1, none⟩)) ?_
  refine tw 1 24 (.bool false) ?_ (hy := by intro Y hSw; obtain ⟨X0, X1, X2, X3, X4, X5, X6, X7, X8, X9, X10⟩ := P3.below hSw (by omega); go_simp)
  refine tw 2 25 (.bool false) ?_
  refine ts 3 26 ?_
  refine ts 4 27 ?_
  refine ts 5 28 ?_
  refine ts 6 29 ?_
  refine ts 7 30 ?_
  refine ts 8 31 ?_
  refine tw 9 32 (.bool false) ?_
  refine tw 10 22 (.bool false) ?_
  refine wpAnyH_done (by kernel_rfl) ?_ _
  go_wp2
  go_ret
  exact ⟨by rw [hN.out]; rfl, B3.trans (hb0.mono B3.size)⟩
 | true =>
  obtain ⟨⟨v1, v2, v3, v4⟩, hov⟩ : ∃ v, ownR id L k = v := ⟨_, rfl⟩
  have hρ3 : Hid (ρ = if vLt h.r h.c h.b h.p v1 v2 v3 v4 then 3 else 2) := by unfold Hid; rw [hρ2.out, hhas, hov]; rfl
  replace hov : Hid _ := hov
  obtain ⟨t, ht⟩ : ∃ t, vLt h.r h.c h.b h.p v1 v2 v3 v4 = t := ⟨_, rfl⟩
  replace ht : Hid _ := ht
  clear hρ2
  cases t
  ·
   refine wp_region_held (S := fun Y => Below y3.heap.size y3 Y) (by kernel_rfl) ?_
   change wpAnyH _ _ _ _ _ _ _ _ (World.drew _)
   have hb0 : Below y3.heap.size y3 y3.drew := (Below.refl _ _).drew
   obtain ⟨u0, hy0⟩ := mk_ y3.drew
   rw [← hy0] at hb0 ⊢
   clear hy0
   refine tw 0 23 (.pointer (some ⟨Q, 1, none⟩)) ?_
   refine tw 1 24 (.bool true) ?_ (hy := by intro Y hSw; obtain ⟨X0, X1, X2, X3, X4, X5, X6, X7, X8, X9, X10⟩ := P3.below hSw (by omega); go_simp)
   refine tw 2 25 (.bool true) ?_
   refine tw 3 26 (.pointer (some ⟨Q, 2, none⟩)) ?_
   refine tw 4 27 (.agg #[.int .i64 h.r, .int .i64 h.c, .int .i64 h.b, .int .i64 h.p]) ?_ (hy := by intro Y hSw; obtain ⟨X0, X1, X2, X3, X4, X5, X6, X7, X8, X9, X10⟩ := P3.below hSw (by omega); go_simp)
   refine tw 5 28 (.agg #[.int .i64 id, .slice (some ⟨bk, off, none⟩) L.length cap]) ?_ (hy := by intro Y hSw; obtain ⟨X0, X1⟩ := A3.below hSw (by omega); go_simp)
   refine tw 6 29 (.int .i64 (k : Int)) ?_
   refine wpAnyH_all (rs := [7]) (by kernel_rfl) (by simp) ?_
   intro i hi; obtain rfl : i = 7 := by simpa using hi
   refine wpOp_step rfl (fun K hK => ?_)
   rw [if_pos (by kernel_rfl)]
   go_simp
   go_at_call 119
   refine (ownI id (some ⟨bk, off, none⟩) cap L (k : Int) u0 (hv3.below hb0 hB3) hl).mono ?_
   rintro e u1 ⟨rfl, kq⟩
   have hb1 : Below y3.heap.size y3 u1 := hb0.trans (kq.mono hb0.size)
   clear kq
   rw [hov.out]
   refine hK _ _ ⟨hb1, ?_⟩
   clear hK K hi
   refine wpAnyH_all (rs := [8]) (by kernel_rfl) (by simp) ?_
   intro i hi; obtain rfl : i = 8 := by simpa using hi
   refine wpOp_step rfl (fun K hK => ?_)
   rw [if_pos (by kernel_rfl)]
   go_simp
   go_at_call 151
   refine (betterI h.r h.c h.b h.p v1 v2 v3 v4 u1).mono ?_
   rintro e u2 ⟨rfl, kq⟩
   have hb2 : Below y3.heap.size y3 u2 := hb1.trans (kq.mono hb1.size)
   clear kq
   rw [ht.out]
   refine hK _ _ ⟨hb2, ?_⟩
   clear hK K hi
   refine tw 9 32 (.bool false) ?_
   refine tw 10 22 (.bool false) ?_
   refine wpAnyH_done (by kernel_rfl) ?_ _
   go_wp2
   go_ret
   exact ⟨by rw [hρ3.out, ht.out]; rfl, B3.trans (hb2.mono B3.size)⟩
  ·
   refine wp_region_held (S := fun Y => Below y3.heap.size y3 Y) (by kernel_rfl) ?_
   change wpAnyH _ _ _ _ _ _ _ _ (World.drew _)
   have hb0 : Below y3.heap.size y3 y3.drew := (Below.refl _ _).drew
   obtain ⟨u0, hy0⟩ := mk_ y3.drew
   rw [← hy0] at hb0 ⊢
   clear hy0
   refine tw 0 23 (.pointer (some ⟨Q, 1, none⟩)) ?_
   refine tw 1 24 (.bool true) ?_ (hy := by intro Y hSw; obtain ⟨X0, X1, X2, X3, X4, X5, X6, X7, X8, X9, X10⟩ := P3.below hSw (by omega); go_simp)
   refine tw 2 25 (.bool true) ?_
   refine tw 3 26 (.pointer (some ⟨Q, 2, none⟩)) ?_
   refine tw 4 27 (.agg #[.int .i64 h.r, .int .i64 h.c, .int .i64 h.b, .int .i64 h.p]) ?_ (hy := by intro Y hSw; obtain ⟨X0, X1, X2, X3, X4, X5, X6, X7, X8, X9, X10⟩ := P3.below hSw (by omega); go_simp)
   refine tw 5 28 (.agg #[.int .i64 id, .slice (some ⟨bk, off, none⟩) L.length cap]) ?_ (hy := by intro Y hSw; obtain ⟨X0, X1⟩ := A3.below hSw (by omega); go_simp)
   refine tw 6 29 (.int .i64 (k : Int)) ?_
   refine wpAnyH_all (rs := [7]) (by kernel_rfl) (by simp) ?_
   intro i hi; obtain rfl : i = 7 := by simpa using hi
   refine wpOp_step rfl (fun K hK => ?_)
   rw [if_pos (by kernel_rfl)]
   go_simp
   go_at_call 119
   refine (ownI id (some ⟨bk, off, none⟩) cap L (k : Int) u0 (hv3.below hb0 hB3) hl).mono ?_
   rintro e u1 ⟨rfl, kq⟩
   have hb1 : Below y3.heap.size y3 u1 := hb0.trans (kq.mono hb0.size)
   clear kq
   rw [hov.out]
   refine hK _ _ ⟨hb1, ?_⟩
   clear hK K hi
   refine wpAnyH_all (rs := [8]) (by kernel_rfl) (by simp) ?_
   intro i hi; obtain rfl : i = 8 := by simpa using hi
   refine wpOp_step rfl (fun K hK => ?_)
   rw [if_pos (by kernel_rfl)]
   go_simp
   go_at_call 151
   refine (betterI h.r h.c h.b h.p v1 v2 v3 v4 u1).mono ?_
   rintro e u2 ⟨rfl, kq⟩
   have hb2 : Below y3.heap.size y3 u2 := hb1.trans (kq.mono hb1.size)
   clear kq
   rw [ht.out]
   refine hK _ _ ⟨hb2, ?_⟩
   clear hK K hi
   refine tw 9 32 (.bool true) ?_
   refine tw 10 22 (.bool true) ?_
   refine wpAnyH_done (by kernel_rfl) ?_ _
   go_wp2
   go_ret
   exact ⟨by rw [hρ3.out, ht.out]; rfl, B3.trans (hb2.mono B3.size)⟩
end Go.Proofs.YtnpiljegdiconabGreat
