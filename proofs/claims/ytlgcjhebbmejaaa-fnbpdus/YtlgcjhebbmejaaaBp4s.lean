/- spec.BpduBytes, walked. -/
import Derived.Test.YtlgcjhebbmejaaaRows
import Derived.WalkKit
import Derived.ProofKit
import Derived.OpenShut
import Derived.ShutString
import Derived.ChangeOld
import Derived.Below
import Derived.Deep.QuietTactic
import Derived.BigQuiet
import Derived.WalkSmall
import Derived.Laws.OwnMore
import Derived.WalkSpells
import Derived.WalkLawsBesides
import Derived.Deep.Cut
import Derived.Deep.RegionHeld
import Derived.Test.YtlgcjhebbmejaaaBp4
import Derived.Test.YtlgcjhebbmejaaaTakes
namespace Go.Proofs.Ytlgcjhebbmejaaa
open Go.ChangeShapes Go.WideShapes Go.ChangeAt Go.RowKit
open Go.ChangeMaps (open_string shut_string)
set_option linter.unusedVariables false
set_option maxRecDepth 100000

theorem join_regionB {P : Program} {reg : Code} {K : Act → World → Prop} {Q : Exit → Act → World → Prop} {l : List Value} {ds : List Deferred} {W : World} (R : List Value → List Value → World → Prop) (h1 : ∀ l' W', R l l' W' → K ⟨l'.toArray, ds⟩ W') (h2 : ∀ K2 : Act → World → Prop, Hid (∀ l' W', R l l' W' → K2 ⟨l'.toArray, ds⟩ W') → Code.wp P reg (Exit.then K2 Q) ⟨l.toArray, ds⟩ W) : Code.wp P reg (Exit.then K Q) ⟨l.toArray, ds⟩ W := h2 K h1
theorem lit_own (y : World) (L : List Int) (hl : L.length ≤ 1000) : FOwn bEnc 1 5 y.heap.size (y.alloc (Obj.cells (by8 L).toArray 5)) (.slice (some ⟨y.heap.size, 0, none⟩) L.length L.length) L :=
  bOf (World.ownsRow_lit y (by8 L).toArray L.length (Nat.le_refl _) (by unfold maxLen; omega) (by simp [by8_len]))
theorem lit_view (y : World) (L : List Int) (hl : L.length ≤ 1000) : FView bEnc (y.alloc (Obj.cells (by8 L).toArray 5)) (some ⟨y.heap.size, 0, none⟩) L := (lit_own y L hl).view.2
theorem FOwn.carryB {base : Nat} {w w' : World} {v : Value} {L : List Int} (h : FOwn bEnc 1 5 base w v L) (k : Below w.heap.size w w') : FOwn bEnc 1 5 base w' v L := h.later k
set_option maxHeartbeats 16000000 in
theorem byS (x : Bp) (w : World) : Calls Try.prog 20 #[.agg #[.bool x.ch, .bool x.ak, .bool x.ag, .bool x.le, .bool x.op, .int .i64 x.ro, .int .i64 x.r, .int .i64 x.c, .int .i64 x.b, .int .i64 x.p, .int .i64 x.h]] w fun e w' => ∃ ad cap, e = .returned (.slice ad (byB x).length cap) ∧ FOwn bEnc 1 5 w.heap.size w' (.slice ad (byB x).length cap) (byB x) ∧ Below w.heap.size w w' := by
  cases hok : bpOk x with
  | false =>
    have e : byB x = [] := by unfold byB; rw [hok]; rfl
    rw [e]
    clear e
    obtain ⟨y, hy⟩ : ∃ y, y = w.alloc (Obj.cells #[.bool x.ch, .bool x.ak, .bool x.ag, .bool x.le, .bool x.op, .int .i64 x.ro, .int .i64 x.r, .int .i64 x.c, .int .i64 x.b, .int .i64 x.p, .int .i64 x.h] 27) := ⟨_, rfl⟩
    have B0 : Below w.heap.size w y := by rw [hy]; exact below_new _
    have A0 : BpAt y w.heap.size x := by rw [hy]; exact BpAt.new w _ x
    have S0 := A0.lt
    go_enter Try.func20, Try.ntmps20
    go_wp2_with fail
    go_at_call 22
    rw [← hy]
    clear hy
    refine (bpOkS x y).mono ?_
    rintro e y1 ⟨rfl, k1⟩
    rw [hok]
    have B1 := B0.trans (k1.mono B0.size)
    have A1 := A0.below k1 S0
    have S1 := A1.lt
    clear A0 k1 B0 S0
    go_wp2
    go_ret
    exact ⟨some ⟨y1.heap.size, 0, none⟩, 0, rfl, (FOwn.empty y1).base B1.size, B1.trans ((below_new _).mono B1.size)⟩
  | true =>
    have e : byB x = byW x := by unfold byB; rw [hok]; rfl
    rw [e]
    clear e
    obtain ⟨hro, hvk, hh⟩ := bpOk_bd hok
    obtain ⟨hr0, hr1, hc0, hc1, hb0, hb1, hp0, hp1⟩ := vOk_bd hvk
    obtain ⟨hh0, hh1⟩ := hh
    obtain ⟨hf0, hf1⟩ := flZ_le x
    obtain ⟨y, hy⟩ : ∃ y, y = w.alloc (Obj.cells #[.bool x.ch, .bool x.ak, .bool x.ag, .bool x.le, .bool x.op, .int .i64 x.ro, .int .i64 x.r, .int .i64 x.c, .int .i64 x.b, .int .i64 x.p, .int .i64 x.h] 27) := ⟨_, rfl⟩
    have B0 : Below w.heap.size w y := by rw [hy]; exact below_new _
    have A0 : BpAt y w.heap.size x := by rw [hy]; exact BpAt.new w _ x
    have S0 := A0.lt
    go_enter Try.func20, Try.ntmps20
    go_wp2_with fail
    go_at_call 22
    rw [← hy]
    clear hy
    refine (bpOkS x y).mono ?_
    rintro e y1 ⟨rfl, k1⟩
    rw [hok]
    have B1 := B0.trans (k1.mono B0.size)
    have A1 := A0.below k1 S0
    have S1 := A1.lt
    clear A0 k1 B0 S0
    clear hok hvk
    have cc := A1
    obtain ⟨a0, a1, a2, a3, a4, a5, a6, a7, a8, a9, a10⟩ := cc
    go_upto_region 4 with fail
    obtain ⟨s, hs⟩ : ∃ s, s = 20000 * x.c := ⟨_, rfl⟩
    rw [← hs]
    have hs0 : 0 ≤ s ∧ s ≤ 400000 := by omega
    replace hs : Hid _ := hs
    obtain ⟨i0, hi0, hz0, hz1, hz2⟩ := info_parts bInfo
    refine join_regionB (fun LL l' W' => ∃ (ad : Option Addr) (cap : Nat) (us : List Value), us.length = 9 ∧ l' = LL.take 4 ++ (.slice ad 13 cap :: (LL.drop 5).take 8) ++ us ++ LL.drop 22 ∧ FOwn bEnc 1 5 y1.heap.size W' (.slice ad 13 cap) ([0, 0, 2, 2, flZ x] ++ [128, 0, 0, 0, 0, 0, 0, x.r]) ∧ Below y1.heap.size y1 W') ?_ ?_
    rotate_left
    · intro K2 hT3
      refine wp_region_held (S := fun Y => Below y1.heap.size y1 Y) (by kernel_rfl) ?_
      change wpAnyH _ _ _ _ _ _ _ _ (World.drew _)
      have hb0 : Below y1.heap.size y1 y1.drew := (Below.refl _ _).drew
      obtain ⟨u0, hy0⟩ : ∃ y_, y_ = y1.drew := ⟨_, rfl⟩
      rw [← hy0] at hb0 ⊢
      clear hy0
      refine takeW 0 13 (.agg #[.bool x.ch, .bool x.ak, .bool x.ag, .bool x.le, .bool x.op, .int .i64 x.ro, .int .i64 x.r, .int .i64 x.c, .int .i64 x.b, .int .i64 x.p, .int .i64 x.h]) rfl rfl (by kernel_rfl) (by kernel_rfl) (by kernel_rfl) (fun _ _ _ h => h) (by kernel_rfl) (by (intro Y hSw; obtain ⟨X0, X1, X2, X3, X4, X5, X6, X7, X8, X9, X10⟩ := A1.below hSw S1; go_simp)) (by assumption) ?_
      simp only [List.set_cons_zero, List.set_cons_succ]
      refine takeW 4 17 (.pointer (some ⟨w.heap.size, 6, none⟩)) rfl rfl (by kernel_rfl) (by kernel_rfl) (by kernel_rfl) (fun _ _ _ h => h) (by kernel_rfl) (by (intro w hSw; go_simp)) (by assumption) ?_
      simp only [List.set_cons_zero, List.set_cons_succ]
      refine takeW 5 18 (.pointer (some ⟨w.heap.size, 6, none⟩)) rfl rfl (by kernel_rfl) (by kernel_rfl) (by kernel_rfl) (fun _ _ _ h => h) (by kernel_rfl) (by (intro w hSw; go_simp)) (by assumption) ?_
      simp only [List.set_cons_zero, List.set_cons_succ]
      refine takeW 6 19 (.int .i64 x.r) rfl rfl (by kernel_rfl) (by kernel_rfl) (by kernel_rfl) (fun _ _ _ h => h) (by kernel_rfl) (by (intro Y hSw; obtain ⟨X0, X1, X2, X3, X4, X5, X6, X7, X8, X9, X10⟩ := A1.below hSw S1; go_simp)) (by assumption) ?_
      simp only [List.set_cons_zero, List.set_cons_succ]
      refine wpAnyH_all (rs := [1]) (by kernel_rfl) (by simp) ?_
      intro i hi; obtain rfl : i = 1 := by simpa using hi
      refine wpOp_step rfl (fun Kz hKz => ?_)
      rw [if_pos (by kernel_rfl)]
      go_simp
      go_at_call 24
      refine (flagsS x u0).mono ?_
      rintro e u1 ⟨rfl, kq⟩
      have hb1 : Below y1.heap.size y1 u1 := hb0.trans (kq.mono hb0.size)
      clear kq
      refine hKz _ _ ⟨hb1, ?_⟩
      clear hKz Kz hi
      refine takeW 2 15 (.int .u8 (flZ x)) rfl rfl (by kernel_rfl) (by kernel_rfl) (by kernel_rfl) (fun _ _ _ h => h) (by kernel_rfl) (by (intro w hSw; go_simp; rw [IntKind.wrap_u8]; omega)) (by assumption) ?_
      simp only [List.set_cons_zero, List.set_cons_succ]
      refine wpAnyH_all (rs := [3, 7]) (by kernel_rfl) (by simp) ?_
      intro i hi; rcases (by simpa using hi : i = 3 ∨ i = 7) with rfl | rfl
      · refine wpOp_step rfl (fun Kz hKz => ?_)
        rw [if_pos (by kernel_rfl)]
        go_simp
        obtain ⟨u2, hy⟩ : ∃ y_, y_ = u1.alloc (Obj.cells #[.int .u8 0, .int .u8 0, .int .u8 2, .int .u8 2, .int .u8 (flZ x)] 5) := ⟨_, rfl⟩
        have kq : Below u1.heap.size u1 u2 := by rw [hy]; exact below_new _
        have O5 : FOwn bEnc 1 5 u1.heap.size u2 (.slice (some ⟨u1.heap.size, 0, none⟩) 5 5) [0, 0, 2, 2, flZ x] := by rw [hy]; exact lit_own u1 [0, 0, 2, 2, flZ x] (by simp)
        have hb2 : Below y1.heap.size y1 u2 := hb1.trans (kq.mono hb1.size)
        rw [← hy]
        clear hy kq
        refine hKz _ _ ⟨hb2, ?_⟩
        clear hKz Kz hi
        refine wpAnyH_all (rs := [7]) (by kernel_rfl) (by simp) ?_
        intro i hi; obtain rfl : i = 7 := by simpa using hi
        refine wpOp_step rfl (fun Kz hKz => ?_)
        rw [if_pos (by kernel_rfl)]
        go_simp
        go_at_call 43
        refine (whoS x.r u2 (by omega) (by omega)).mono ?_
        rintro e u3 ⟨rfl, hy⟩
        have kq : Below u2.heap.size u2 u3 := by rw [hy]; exact below_new _
        have O8 : FOwn bEnc 1 5 u2.heap.size u3 (.slice (some ⟨u2.heap.size, 0, none⟩) 8 8) [128, 0, 0, 0, 0, 0, 0, x.r] := by rw [hy]; exact lit_own u2 [128, 0, 0, 0, 0, 0, 0, x.r] (by simp)
        have hb3 : Below y1.heap.size y1 u3 := hb2.trans (kq.mono hb2.size)
        have O5 := O5.later kq
        clear hy kq
        refine hKz _ _ ⟨hb3, ?_⟩
        clear hKz Kz hi
        have hbase : u1.heap.size ≤ u3.heap.size := by have h := O5.lt _ rfl; omega
        refine wpAnyH_all (rs := [8]) (by kernel_rfl) (by simp) ?_
        intro i hi; obtain rfl : i = 8 := by simpa using hi
        refine wpOp_step rfl (fun Kz hKz => ?_)
        rw [if_pos (by kernel_rfl)]
        refine fapp bEnc_len bEnc_ones 21 _ _ 22 rfl rfl u1.heap.size 5 i0 (.int .u8 0) 1 Try.underlying22 hi0 hz0 hz1 hz2 rfl (by decide) (by decide) (.slice (some ⟨u1.heap.size, 0, none⟩) 5 5) [0, 0, 2, 2, flZ x] rfl O5 (some ⟨u2.heap.size, 0, none⟩) 8 [128, 0, 0, 0, 0, 0, 0, x.r] rfl (fun e => by cases e) O8.view.2 (by simp) hbase ?_
        intro v4 u4 O4 kq hcase
        have hb4 : Below y1.heap.size y1 u4 := hb3.grown kq hb3.size (fun g e => by cases e; have := hb1.size; have := hb2.size; first | exact hb1.size | exact hb2.size)
        obtain ⟨ad, cap, rfl⟩ := O4.open_
        rw [show ([0, 0, 2, 2, flZ x] ++ [128, 0, 0, 0, 0, 0, 0, x.r]).length = 13 from rfl] at O4 ⊢
        simp only [List.set_cons_zero, List.set_cons_succ]
        refine hKz _ _ ⟨hb4, ?_⟩
        clear hKz Kz hi
        refine takeW 9 4 (.slice ad 13 cap) rfl rfl (by kernel_rfl) (by kernel_rfl) (by kernel_rfl) (fun _ _ _ h => h) (by kernel_rfl) (by (intro w hSw; go_simp)) (by assumption) ?_
        simp only [List.set_cons_zero, List.set_cons_succ]
        refine wpAnyH_done (by kernel_rfl) ?_ _
        exact hT3.out _ _ ⟨ad, cap, [(.agg #[.bool x.ch, .bool x.ak, .bool x.ag, .bool x.le, .bool x.op, .int .i64 x.ro, .int .i64 x.r, .int .i64 x.c, .int .i64 x.b, .int .i64 x.p, .int .i64 x.h]), .int .i64 (flZ x), .int .u8 (flZ x), .slice (some ⟨u1.heap.size, 0, none⟩) 5 5, .pointer (some ⟨w.heap.size, 6, none⟩), .pointer (some ⟨w.heap.size, 6, none⟩), .int .i64 x.r, .slice (some ⟨u2.heap.size, 0, none⟩) 8 8, .slice ad 13 cap], rfl, by kernel_rfl, O4.base (by have := hb1.size; have := hb2.size; omega), hb4⟩
      · refine wpOp_step rfl (fun Kz hKz => ?_)
        rw [if_pos (by kernel_rfl)]
        go_simp
        go_at_call 43
        refine (whoS x.r u1 (by omega) (by omega)).mono ?_
        rintro e u2 ⟨rfl, hy⟩
        have kq : Below u1.heap.size u1 u2 := by rw [hy]; exact below_new _
        have O8 : FOwn bEnc 1 5 u1.heap.size u2 (.slice (some ⟨u1.heap.size, 0, none⟩) 8 8) [128, 0, 0, 0, 0, 0, 0, x.r] := by rw [hy]; exact lit_own u1 [128, 0, 0, 0, 0, 0, 0, x.r] (by simp)
        have hb2 : Below y1.heap.size y1 u2 := hb1.trans (kq.mono hb1.size)
        clear hy kq
        refine hKz _ _ ⟨hb2, ?_⟩
        clear hKz Kz hi
        refine wpAnyH_all (rs := [3]) (by kernel_rfl) (by simp) ?_
        intro i hi; obtain rfl : i = 3 := by simpa using hi
        refine wpOp_step rfl (fun Kz hKz => ?_)
        rw [if_pos (by kernel_rfl)]
        go_simp
        obtain ⟨u3, hy⟩ : ∃ y_, y_ = u2.alloc (Obj.cells #[.int .u8 0, .int .u8 0, .int .u8 2, .int .u8 2, .int .u8 (flZ x)] 5) := ⟨_, rfl⟩
        have kq : Below u2.heap.size u2 u3 := by rw [hy]; exact below_new _
        have O5 : FOwn bEnc 1 5 u2.heap.size u3 (.slice (some ⟨u2.heap.size, 0, none⟩) 5 5) [0, 0, 2, 2, flZ x] := by rw [hy]; exact lit_own u2 [0, 0, 2, 2, flZ x] (by simp)
        have hb3 : Below y1.heap.size y1 u3 := hb2.trans (kq.mono hb2.size)
        have O8 := O8.later kq
        rw [← hy]
        clear hy kq
        refine hKz _ _ ⟨hb3, ?_⟩
        clear hKz Kz hi
        have hbase : u2.heap.size ≤ u3.heap.size := by have h := O5.lt _ rfl; omega
        refine wpAnyH_all (rs := [8]) (by kernel_rfl) (by simp) ?_
        intro i hi; obtain rfl : i = 8 := by simpa using hi
        refine wpOp_step rfl (fun Kz hKz => ?_)
        rw [if_pos (by kernel_rfl)]
        refine fapp bEnc_len bEnc_ones 21 _ _ 22 rfl rfl u2.heap.size 5 i0 (.int .u8 0) 1 Try.underlying22 hi0 hz0 hz1 hz2 rfl (by decide) (by decide) (.slice (some ⟨u2.heap.size, 0, none⟩) 5 5) [0, 0, 2, 2, flZ x] rfl O5 (some ⟨u1.heap.size, 0, none⟩) 8 [128, 0, 0, 0, 0, 0, 0, x.r] rfl (fun e => by cases e) O8.view.2 (by simp) hbase ?_
        intro v4 u4 O4 kq hcase
        have hb4 : Below y1.heap.size y1 u4 := hb3.grown kq hb3.size (fun g e => by cases e; have := hb1.size; have := hb2.size; first | exact hb1.size | exact hb2.size)
        obtain ⟨ad, cap, rfl⟩ := O4.open_
        rw [show ([0, 0, 2, 2, flZ x] ++ [128, 0, 0, 0, 0, 0, 0, x.r]).length = 13 from rfl] at O4 ⊢
        simp only [List.set_cons_zero, List.set_cons_succ]
        refine hKz _ _ ⟨hb4, ?_⟩
        clear hKz Kz hi
        refine takeW 9 4 (.slice ad 13 cap) rfl rfl (by kernel_rfl) (by kernel_rfl) (by kernel_rfl) (fun _ _ _ h => h) (by kernel_rfl) (by (intro w hSw; go_simp)) (by assumption) ?_
        simp only [List.set_cons_zero, List.set_cons_succ]
        refine wpAnyH_done (by kernel_rfl) ?_ _
        exact hT3.out _ _ ⟨ad, cap, [(.agg #[.bool x.ch, .bool x.ak, .bool x.ag, .bool x.le, .bool x.op, .int .i64 x.ro, .int .i64 x.r, .int .i64 x.c, .int .i64 x.b, .int .i64 x.p, .int .i64 x.h]), .int .i64 (flZ x), .int .u8 (flZ x), .slice (some ⟨u2.heap.size, 0, none⟩) 5 5, .pointer (some ⟨w.heap.size, 6, none⟩), .pointer (some ⟨w.heap.size, 6, none⟩), .int .i64 x.r, .slice (some ⟨u1.heap.size, 0, none⟩) 8 8, .slice ad 13 cap], rfl, by kernel_rfl, O4.base (by have := hb1.size; have := hb2.size; omega), hb4⟩
    rintro l' y2 ⟨a4, c4, us, hul, rfl, O4, k2⟩
    obtain ⟨n0, us, rfl⟩ : ∃ a b, us = a :: b := List.exists_cons_of_length_eq_add_one hul
    replace hul := Nat.succ.inj hul
    obtain ⟨n1, us, rfl⟩ : ∃ a b, us = a :: b := List.exists_cons_of_length_eq_add_one hul
    replace hul := Nat.succ.inj hul
    obtain ⟨n2, us, rfl⟩ : ∃ a b, us = a :: b := List.exists_cons_of_length_eq_add_one hul
    replace hul := Nat.succ.inj hul
    obtain ⟨n3, us, rfl⟩ : ∃ a b, us = a :: b := List.exists_cons_of_length_eq_add_one hul
    replace hul := Nat.succ.inj hul
    obtain ⟨n4, us, rfl⟩ : ∃ a b, us = a :: b := List.exists_cons_of_length_eq_add_one hul
    replace hul := Nat.succ.inj hul
    obtain ⟨n5, us, rfl⟩ : ∃ a b, us = a :: b := List.exists_cons_of_length_eq_add_one hul
    replace hul := Nat.succ.inj hul
    obtain ⟨n6, us, rfl⟩ : ∃ a b, us = a :: b := List.exists_cons_of_length_eq_add_one hul
    replace hul := Nat.succ.inj hul
    obtain ⟨n7, us, rfl⟩ : ∃ a b, us = a :: b := List.exists_cons_of_length_eq_add_one hul
    replace hul := Nat.succ.inj hul
    obtain ⟨n8, us, rfl⟩ : ∃ a b, us = a :: b := List.exists_cons_of_length_eq_add_one hul
    replace hul := Nat.succ.inj hul
    obtain rfl : us = [] := List.eq_nil_of_length_eq_zero hul
    clear hul
    simp only [List.take, List.drop, List.cons_append, List.nil_append]
    have A2 := A1.below k2 S1
    have B2 := B1.trans (k2.mono B1.size)
    have P2 : y1.heap.size ≤ y2.heap.size := k2.size
    have S2 := A2.lt
    clear A1 k2
    have h255 : ∀ n : Int, bits BinOp.and IntKind.i64 n 255 = n % 256 := and255
    have hmm : ∀ n : Int, n % 256 % 256 = n % 256 := fun n => by omega
    obtain ⟨z2, hz2_⟩ : ∃ z, z = y2.alloc (Obj.cells #[.int .u8 (s / 16777216 % 256), .int .u8 (s / 65536 % 256), .int .u8 (s / 256 % 256), .int .u8 (s % 256)] 5) := ⟨_, rfl⟩
    have V2 : FView bEnc z2 (some ⟨y2.heap.size, 0, none⟩) [s / 16777216 % 256, s / 65536 % 256, s / 256 % 256, s % 256] := by rw [hz2_]; exact lit_view y2 [s / 16777216 % 256, s / 65536 % 256, s / 256 % 256, s % 256] (by simp)
    have kz : Below y2.heap.size y2 z2 := by rw [hz2_]; exact below_new _
    have O4 := O4.later kz
    have A2 := A2.below kz S2
    have B2 := B2.trans (kz.mono (by have := B1.size; omega))
    have hle := kz.size
    go_wp2_with (first | (at_builtin; rw [← hz2_]; refine fappL bEnc_len bEnc_ones rfl _ _ 22 rfl y1.heap.size 5 i0 (.int .u8 0) 1 Try.underlying22 hi0 hz0 hz1 hz2 rfl (by decide) (by decide) (.slice a4 13 c4) ([0, 0, 2, 2, flZ x] ++ [128, 0, 0, 0, 0, 0, 0, x.r]) rfl O4 (some ⟨y2.heap.size, 0, none⟩) 4 [s / 16777216 % 256, s / 65536 % 256, s / 256 % 256, s % 256] rfl (fun e => by cases e) V2 (by simp) (by omega) ?_))
    have OP := O4
    intro v5 y3 O5 g5 _
    obtain ⟨a5, c5, rfl⟩ := O5.open_
    rw [← hz2_] at g5
    rw [show ([0, 0, 2, 2, flZ x, 128, 0, 0, 0, 0, 0, 0, x.r, s / 16777216 % 256, s / 65536 % 256, s / 256 % 256, s % 256] : List Int).length = 17 from rfl] at O5 ⊢
    have kz : Below y1.heap.size z2 y3 := (Below.refl _ _).grown g5 (by omega) (fun g e => by have h := (OP.lt g e).1; exact h)
    have A2 := A2.below kz S1
    have B2 := B2.trans (kz.mono B1.size)
    have hle := kz.size
    clear V2 O4 OP g5 kz hz2_
    have cc := A2
    obtain ⟨b0, b1, b2, b3, b4, b5, b6, b7, b8, b9, b10⟩ := cc
    go_wp2_with fail
    go_at_call 43
    clear b0 b1 b2 b3 b4 b5 b6 b7 b8 b9 b10
    refine (whoS x.b y3 (by omega) (by omega)).mono ?_
    rintro e z3 ⟨rfl, hz3_⟩
    have V3 : FView bEnc z3 (some ⟨y3.heap.size, 0, none⟩) [128, 0, 0, 0, 0, 0, 0, x.b] := by rw [hz3_]; exact lit_view y3 [128, 0, 0, 0, 0, 0, 0, x.b] (by simp)
    have kz : Below y3.heap.size y3 z3 := by rw [hz3_]; exact below_new _
    clear hz3_
    have O5 := O5.later kz
    have A2 := A2.below kz A2.lt
    have B2 := B2.trans (kz.mono (by have := B2.size; omega))
    have hle := kz.size
    go_wp2_with (first | (at_builtin; refine fappL bEnc_len bEnc_ones rfl _ _ 22 rfl y1.heap.size 5 i0 (.int .u8 0) 1 Try.underlying22 hi0 hz0 hz1 hz2 rfl (by decide) (by decide) (.slice a5 17 c5) ([0, 0, 2, 2, flZ x, 128, 0, 0, 0, 0, 0, 0, x.r, s / 16777216 % 256, s / 65536 % 256, s / 256 % 256, s % 256]) rfl O5 (some ⟨y3.heap.size, 0, none⟩) 8 [128, 0, 0, 0, 0, 0, 0, x.b] rfl (fun e => by cases e) V3 (by simp) (by omega) ?_))
    have OP := O5
    intro v6 y4 O6 g6 _
    obtain ⟨a6, c6, rfl⟩ := O6.open_
    rw [show ([0, 0, 2, 2, flZ x, 128, 0, 0, 0, 0, 0, 0, x.r, s / 16777216 % 256, s / 65536 % 256, s / 256 % 256, s % 256, 128, 0, 0, 0, 0, 0, 0, x.b] : List Int).length = 25 from rfl] at O6 ⊢
    have kz : Below y1.heap.size z3 y4 := (Below.refl _ _).grown g6 (by omega) (fun g e => by have h := (OP.lt g e).1; exact h)
    have A2 := A2.below kz S1
    have B2 := B2.trans (kz.mono B1.size)
    have hle := kz.size
    clear V3 O5 OP g6 kz
    have cc := A2
    obtain ⟨b0, b1, b2, b3, b4, b5, b6, b7, b8, b9, b10⟩ := cc
    obtain ⟨z4, hz4_⟩ : ∃ z, z = y4.alloc (Obj.cells #[.int .u8 128, .int .u8 (x.p + 1), .int .u8 x.h, .int .u8 0, .int .u8 8, .int .u8 0, .int .u8 2, .int .u8 0, .int .u8 15, .int .u8 0, .int .u8 0] 5) := ⟨_, rfl⟩
    have V4 : FView bEnc z4 (some ⟨y4.heap.size, 0, none⟩) [128, x.p + 1, x.h, 0, 8, 0, 2, 0, 15, 0, 0] := by rw [hz4_]; exact lit_view y4 [128, x.p + 1, x.h, 0, 8, 0, 2, 0, 15, 0, 0] (by simp)
    have kz : Below y4.heap.size y4 z4 := by rw [hz4_]; exact below_new _
    have O6 := O6.later kz
    have A2 := A2.below kz A2.lt
    have B2 := B2.trans (kz.mono (by have := B2.size; omega))
    have hle := kz.size
    go_wp2_with (first | (at_builtin; rw [← hz4_]; refine fappL bEnc_len bEnc_ones rfl _ _ 22 rfl y1.heap.size 5 i0 (.int .u8 0) 1 Try.underlying22 hi0 hz0 hz1 hz2 rfl (by decide) (by decide) (.slice a6 25 c6) ([0, 0, 2, 2, flZ x, 128, 0, 0, 0, 0, 0, 0, x.r, s / 16777216 % 256, s / 65536 % 256, s / 256 % 256, s % 256, 128, 0, 0, 0, 0, 0, 0, x.b]) rfl O6 (some ⟨y4.heap.size, 0, none⟩) 11 [128, x.p + 1, x.h, 0, 8, 0, 2, 0, 15, 0, 0] rfl (fun e => by cases e) V4 (by simp) (by omega) ?_))
    have OP := O6
    intro v7 y5 O7 g7 _
    obtain ⟨a7, c7, rfl⟩ := O7.open_
    rw [← hz4_] at g7
    rw [show ([0, 0, 2, 2, flZ x, 128, 0, 0, 0, 0, 0, 0, x.r, s / 16777216 % 256, s / 65536 % 256, s / 256 % 256, s % 256, 128, 0, 0, 0, 0, 0, 0, x.b, 128, x.p + 1, x.h, 0, 8, 0, 2, 0, 15, 0, 0] : List Int).length = 36 from rfl] at O7 ⊢
    have kz : Below y1.heap.size z4 y5 := (Below.refl _ _).grown g7 (by omega) (fun g e => by have h := (OP.lt g e).1; exact h)
    have A2 := A2.below kz S1
    have B2 := B2.trans (kz.mono B1.size)
    have hle := kz.size
    go_wp2
    go_ret
    have e : byW x = [0, 0, 2, 2, flZ x, 128, 0, 0, 0, 0, 0, 0, x.r, s / 16777216 % 256, s / 65536 % 256, s / 256 % 256, s % 256, 128, 0, 0, 0, 0, 0, 0, x.b, 128, x.p + 1, x.h, 0, 8, 0, 2, 0, 15, 0, 0] := by unfold byW; rw [← hs.out]; rfl
    rw [e]
    exact ⟨a7, c7, rfl, O7.base B1.size, B2⟩

end Go.Proofs.Ytlgcjhebbmejaaa
