import Derived.Test.YtnpiljegdiconabGreatQM20
namespace Go.Proofs.YtnpiljegdiconabGreat
open Go.ChangeShapes Go.WideShapes Go.ChangeAt Go.RowKit
open Go.ChangeMaps (open_string shut_string)
set_option linter.unusedVariables false
set_option maxRecDepth 100000
theorem neqIk_same (x : Ik) (w : World) : (binOp .neq 80 (.agg #[.int .i64 x.k, .int .i64 x.q, .int .i64 x.r, .int .i64 x.c, .int .i64 x.b, .int .i64 x.p, .int .i64 x.h, .bool x.up]) (.agg #[.int .i64 x.k, .int .i64 x.q, .int .i64 x.r, .int .i64 x.c, .int .i64 x.b, .int .i64 x.p, .int .i64 x.h, .bool x.up])).run Tryz.prog w = .ok (.bool false) w := by
 simp [go_sem]
theorem neqIk_else {x y : Ik} (h : x ≠ y) (w : World) : (binOp .neq 80 (.agg #[.int .i64 x.k, .int .i64 x.q, .int .i64 x.r, .int .i64 x.c, .int .i64 x.b, .int .i64 x.p, .int .i64 x.h, .bool x.up]) (.agg #[.int .i64 y.k, .int .i64 y.q, .int .i64 y.r, .int .i64 y.c, .int .i64 y.b, .int .i64 y.p, .int .i64 y.h, .bool y.up])).run Tryz.prog w = .ok (.bool true) w := by
 by_cases h0 : x.k = y.k
 rotate_left
 ·
  simp [go_sem, h0]
 by_cases h1 : x.q = y.q
 rotate_left
 ·
  simp [go_sem, h1]
 by_cases h2 : x.r = y.r
 rotate_left
 ·
  simp [go_sem, h2]
 by_cases h3 : x.c = y.c
 rotate_left
 ·
  simp [go_sem, h3]
 by_cases h4 : x.b = y.b
 rotate_left
 ·
  simp [go_sem, h4]
 by_cases h5 : x.p = y.p
 rotate_left
 ·
  simp [go_sem, h5]
 by_cases h6 : x.h = y.h
 rotate_left
 ·
  simp [go_sem, h6]
 by_cases h7 : x.up = y.up
 rotate_left
 ·
  simp [go_sem, h7]
 exact absurd (by cases x; cases y; simp_all) h
theorem neqOu_same (x : Ou) (w : World) : (binOp .neq 92 (.agg #[.int .i64 x.k, .int .i64 x.pt, .int .i64 x.r, .int .i64 x.c, .int .i64 x.b, .int .i64 x.p, .int .i64 x.h, .bool x.on]) (.agg #[.int .i64 x.k, .int .i64 x.pt, .int .i64 x.r, .int .i64 x.c, .int .i64 x.b, .int .i64 x.p, .int .i64 x.h, .bool x.on])).run Tryz.prog w = .ok (.bool false) w := by
 simp [go_sem]
theorem neqOu_else {x y : Ou} (h : x ≠ y) (w : World) : (binOp .neq 92 (.agg #[.int .i64 x.k, .int .i64 x.pt, .int .i64 x.r, .int .i64 x.c, .int .i64 x.b, .int .i64 x.p, .int .i64 x.h, .bool x.on]) (.agg #[.int .i64 y.k, .int .i64 y.pt, .int .i64 y.r, .int .i64 y.c, .int .i64 y.b, .int .i64 y.p, .int .i64 y.h, .bool y.on])).run Tryz.prog w = .ok (.bool true) w := by
 by_cases h0 : x.k = y.k
 rotate_left
 ·
  simp [go_sem, h0]
 by_cases h1 : x.pt = y.pt
 rotate_left
 ·
  simp [go_sem, h1]
 by_cases h2 : x.r = y.r
 rotate_left
 ·
  simp [go_sem, h2]
 by_cases h3 : x.c = y.c
 rotate_left
 ·
  simp [go_sem, h3]
 by_cases h4 : x.b = y.b
 rotate_left
 ·
  simp [go_sem, h4]
 by_cases h5 : x.p = y.p
 rotate_left
 ·
  simp [go_sem, h5]
 by_cases h6 : x.h = y.h
 rotate_left
 ·
  simp [go_sem, h6]
 by_cases h7 : x.on = y.on
 rotate_left
 ·
  simp [go_sem, h7]
 exact absurd (by cases x; cases y; simp_all) h
set_option maxHeartbeats 4000000 in
theorem ikEql (ad ad' : Option Addr) (cap cap' : Nat) (L L' : List Ik) (w : World) (hv : FView ikEnc w ad L) (hv' : FView ikEnc w ad' L') (hl : L.length ≤ 1048576) (hl' : L'.length ≤ 1048576) :
  Calls Tryz.prog 84 #[.slice ad L.length cap, .slice ad' L'.length cap'] w fun e w' => YN e (L = L') ∧ Below w.heap.size w w' := by
 suffices H : ∀ Q : Prop, Hid (Q ↔ L = L') → Calls Tryz.prog 84 #[.slice ad L.length cap, .slice ad' L'.length cap'] w fun e w' => YN e Q ∧ Below w.heap.size w w' from H _ Iff.rfl
 intro Q hQ
 have hB := hv.lt ikEnc_len (by omega)
 have hB' := hv'.lt ikEnc_len (by omega)
 by_cases hle : (L.length : Int) = (L'.length : Int)
 rotate_left
 ·
  have d1 : ((L.length : Int) != (L'.length : Int)) = true := by simp; omega
  have d2 : decide ((L.length : Int) = (L'.length : Int)) = false := decide_eq_false hle
  replace hQ : Hid (¬ Q) := fun h => by
   have := congrArg List.length (hQ.out.1 h)
   omega
  replace hle : Hid _ := hle
  go_enter Tryz.func84, Tryz.ntmps84
  go_wp2
  go_ret
  exact ⟨YN.no hQ.out, Below.refl _ _⟩
 have hll : Hid (L'.length = L.length) := by unfold Hid; omega
 rw [hll.out]
 clear hle
 go_enter Tryz.func84, Tryz.ntmps84
 go_wp2
 go_loopw [13] (fun i wr => ∃ k : Nat, k ≤ L.length ∧ i = .int .i64 k ∧ Hid (∀ j, j < k → L.getD j Ik.nil = L'.getD j Ik.nil) ∧ Below w.heap.size w wr) (fun i _ => L.length - (intOf i).toNat)
 case atStart => exact ⟨0, Nat.zero_le _, rfl, fun j hj => absurd hj (by omega), Below.refl _ _⟩
 case round =>
  obtain ⟨k, hk, rfl, hF, hb⟩ := hrel
  by_cases hlt : k < L.length
  ·
   obtain ⟨b, off, rfl, _⟩ := hv (by omega)
   obtain ⟨b', off', rfl, _⟩ := hv' (by have := hll.out; omega)
   obtain ⟨h, hh⟩ : ∃ h, L.getD k Ik.nil = h := ⟨_, rfl⟩
   obtain ⟨h', hh'⟩ : ∃ h, L'.getD k Ik.nil = h := ⟨_, rfl⟩
   have hc : ∀ Y, Below wr.heap.size wr Y → IkAtO Y b (off + k * 8) h := fun Y hY => by rw [← hh]; exact ikAtO_of ((hv.below (hb.trans (hY.mono hb.size)) hB).at_ ikEnc_len Ik.nil hlt)
   have hc' : ∀ Y, Below wr.heap.size wr Y → IkAtO Y b' (off' + k * 8) h' := fun Y hY => by rw [← hh']; exact ikAtO_of ((hv'.below (hb.trans (hY.mono hb.size)) hB').at_ ikEnc_len Ik.nil (by have := hll.out; omega))
   replace hh : Hid _ := hh
   replace hh' : Hid _ := hh'
   clear hv hv' hB hB'
   by_cases he : h = h'
   ·
    have heq : ∀ w, (binOp .neq 80 (.agg #[.int .i64 h.k, .int .i64 h.q, .int .i64 h.r, .int .i64 h.c, .int .i64 h.b, .int .i64 h.p, .int .i64 h.h, .bool h.up]) (.agg #[.int .i64 h'.k, .int .i64 h'.q, .int .i64 h'.r, .int .i64 h'.c, .int .i64 h'.b, .int .i64 h'.p, .int .i64 h'.h, .bool h'.up])).run Tryz.prog w = .ok (.bool false) w := fun w => by subst he; exact neqIk_same h w
    replace he : Hid _ := he
    go_upto_region 6 with fail
    refine wp_region_held (S := fun Y => Below wr.heap.size wr Y) (by kernel_rfl) ?_
    change wpAnyH _ _ _ _ _ _ _ _ (World.drew _)
    have hb0 : Below wr.heap.size wr wr.drew := (Below.refl _ _).drew
    obtain ⟨u0, hy0⟩ := mk_ wr.drew
    rw [← hy0] at hb0 ⊢
    clear hy0
    refine tw 0 16 (.slice (some ⟨b, off, none⟩) L.length cap) ?_
    refine tw 1 17 (.int .i64 (k : Int)) ?_
    refine tw 2 18 (.pointer (some ⟨b, off + k * 8, none⟩)) ?_ (hy := by intro Y hSw; go_simp; try omega)
    refine tw 3 19 (.agg #[.int .i64 h.k, .int .i64 h.q, .int .i64 h.r, .int .i64 h.c, .int .i64 h.b, .int .i64 h.p, .int .i64 h.h, .bool h.up]) ?_ (hy := by intro Y hSw; obtain ⟨X0, X1, X2, X3, X4, X5, X6, X7⟩ := hc Y hSw; go_simp)
    refine tw 4 20 (.slice (some ⟨b', off', none⟩) L.length cap') ?_
    refine tw 5 21 (.int .i64 (k : Int)) ?_
    refine tw 6 22 (.pointer (some ⟨b', off' + k * 8, none⟩)) ?_ (hy := by intro Y hSw; go_simp; try omega)
    refine tw 7 23 (.agg #[.int .i64 h'.k, .int .i64 h'.q, .int .i64 h'.r, .int .i64 h'.c, .int .i64 h'.b, .int .i64 h'.p, .int .i64 h'.h, .bool h'.up]) ?_ (hy := by intro Y hSw; obtain ⟨X0, X1, X2, X3, X4, X5, X6, X7⟩ := hc' Y hSw; go_simp)
    refine tw 8 24 (.bool false) ?_ (hy := by intro w hSw; have hq := heq w; go_simp)
    refine wpAnyH_done (by kernel_rfl) ?_ _
    go_wp2
    go_roundw
    case rel =>
     refine ⟨k + 1, by omega, by go_num, fun j hj => ?_, hb.trans (hb0.mono hb.size)⟩
     by_cases ej : j = k
     ·
      rw [ej, hh.out, hh'.out]; exact he.out
     ·
      exact hF.out j (by omega)
    case measure => simp [intOf]; omega
   ·
    have heq : ∀ w, (binOp .neq 80 (.agg #[.int .i64 h.k, .int .i64 h.q, .int .i64 h.r, .int .i64 h.c, .int .i64 h.b, .int .i64 h.p, .int .i64 h.h, .bool h.up]) (.agg #[.int .i64 h'.k, .int .i64 h'.q, .int .i64 h'.r, .int .i64 h'.c, .int .i64 h'.b, .int .i64 h'.p, .int .i64 h'.h, .bool h'.up])).run Tryz.prog w = .ok (.bool true) w := fun w => neqIk_else he w
    replace he : Hid _ := he
    go_upto_region 6 with fail
    refine wp_region_held (S := fun Y => Below wr.heap.size wr Y) (by kernel_rfl) ?_
    change wpAnyH _ _ _ _ _ _ _ _ (World.drew _)
    have hb0 : Below wr.heap.size wr wr.drew := (Below.refl _ _).drew
    obtain ⟨u0, hy0⟩ := mk_ wr.drew
    rw [← hy0] at hb0 ⊢
    clear hy0
    refine tw 0 16 (.slice (some ⟨b, off, none⟩) L.length cap) ?_
    refine tw 1 17 (.int .i64 (k : Int)) ?_
    refine tw 2 18 (.pointer (some ⟨b, off + k * 8, none⟩)) ?_ (hy := by intro Y hSw; go_simp; try omega)
    refine tw 3 19 (.agg #[.int .i64 h.k, .int .i64 h.q, .int .i64 h.r, .int .i64 h.c, .int .i64 h.b, .int .i64 h.p, .int .i64 h.h, .bool h.up]) ?_ (hy := by intro Y hSw; obtain ⟨X0, X1, X2, X3, X4, X5, X6, X7⟩ := hc Y hSw; go_simp)
    refine tw 4 20 (.slice (some ⟨b', off', none⟩) L.length cap') ?_
    refine tw 5 21 (.int .i64 (k : Int)) ?_
    refine tw 6 22 (.pointer (some ⟨b', off' + k * 8, none⟩)) ?_ (hy := by intro Y hSw; go_simp; try omega)
    refine tw 7 23 (.agg #[.int .i64 h'.k, .int .i64 h'.q, .int .i64 h'.r, .int .i64 h'.c, .int .i64 h'.b, .int .i64 h'.p, .int .i64 h'.h, .bool h'.up]) ?_ (hy := by intro Y hSw; obtain ⟨X0, X1, X2, X3, X4, X5, X6, X7⟩ := hc' Y hSw; go_simp)
    refine tw 8 24 (.bool true) ?_ (hy := by intro w hSw; have hq := heq w; go_simp)
    refine wpAnyH_done (by kernel_rfl) ?_ _
    go_wp2
    go_ret
    refine ⟨YN.no (fun q => ?_), hb.trans (hb0.mono hb.size)⟩
    have := hQ.out.1 q
    exact he.out (hh.out.symm.trans ((congrArg (fun z => z.getD k Ik.nil) this).trans hh'.out))
  ·
   obtain rfl : k = L.length := by omega
   go_wp2
   go_ret
   refine ⟨YN.yes (hQ.out.2 ?_), hb⟩
   refine List.ext_getElem hll.out.symm fun i h1 h2 => ?_
   have := hF.out i h1
   simpa [List.getD, h1, h2] using this
set_option maxHeartbeats 4000000 in
theorem ouEql (ad ad' : Option Addr) (cap cap' : Nat) (L L' : List Ou) (w : World) (hv : FView ouEnc w ad L) (hv' : FView ouEnc w ad' L') (hl : L.length ≤ 1048576) (hl' : L'.length ≤ 1048576) :
  Calls Tryz.prog 71 #[.slice ad L.length cap, .slice ad' L'.length cap'] w fun e w' => YN e (L = L') ∧ Below w.heap.size w w' := by
 suffices H : ∀ Q : Prop, Hid (Q ↔ L = L') → Calls Tryz.prog 71 #[.slice ad L.length cap, .slice ad' L'.length cap'] w fun e w' => YN e Q ∧ Below w.heap.size w w' from H _ Iff.rfl
 intro Q hQ
 have hB := hv.lt ouEnc_len (by omega)
 have hB' := hv'.lt ouEnc_len (by omega)
 by_cases hle : (L.length : Int) = (L'.length : Int)
 rotate_left
 ·
  have d1 : ((L.length : Int) != (L'.length : Int)) = true := by simp; omega
  have d2 : decide ((L.length : Int) = (L'.length : Int)) = false := decide_eq_false hle
  replace hQ : Hid (¬ Q) := fun h => by
   have := congrArg List.length (hQ.out.1 h)
   omega
  replace hle : Hid _ := hle
  go_enter Tryz.func71, Tryz.ntmps71
  go_wp2
  go_ret
  exact ⟨YN.no hQ.out, Below.refl _ _⟩
 have hll : Hid (L'.length = L.length) := by unfold Hid; omega
 rw [hll.out]
 clear hle
 go_enter Tryz.func71, Tryz.ntmps71
 go_wp2
 go_loopw [13] (fun i wr => ∃ k : Nat, k ≤ L.length ∧ i = .int .i64 k ∧ Hid (∀ j, j < k → L.getD j Ou.nil = L'.getD j Ou.nil) ∧ Below w.heap.size w wr) (fun i _ => L.length - (intOf i).toNat)
 case atStart => exact ⟨0, Nat.zero_le _, rfl, fun j hj => absurd hj (by omega), Below.refl _ _⟩
 case round =>
  obtain ⟨k, hk, rfl, hF, hb⟩ := hrel
  by_cases hlt : k < L.length
  ·
   obtain ⟨b, off, rfl, _⟩ := hv (by omega)
   obtain ⟨b', off', rfl, _⟩ := hv' (by have := hll.out; omega)
   obtain ⟨h, hh⟩ : ∃ h, L.getD k Ou.nil = h := ⟨_, rfl⟩
   obtain ⟨h', hh'⟩ : ∃ h, L'.getD k Ou.nil = h := ⟨_, rfl⟩
   have hc : ∀ Y, Below wr.heap.size wr Y → OuAtO Y b (off + k * 8) h := fun Y hY => by rw [← hh]; exact ouAtO_of ((hv.below (hb.trans (hY.mono hb.size)) hB).at_ ouEnc_len Ou.nil hlt)
   have hc' : ∀ Y, Below wr.heap.size wr Y → OuAtO Y b' (off' + k * 8) h' := fun Y hY => by rw [← hh']; exact ouAtO_of ((hv'.below (hb.trans (hY.mono hb.size)) hB').at_ ouEnc_len Ou.nil (by have := hll.out; omega))
   replace hh : Hid _ := hh
   replace hh' : Hid _ := hh'
   clear hv hv' hB hB'
   by_cases he : h = h'
   ·
    have heq : ∀ w, (binOp .neq 92 (.agg #[.int .i64 h.k, .int .i64 h.pt, .int .i64 h.r, .int .i64 h.c, .int .i64 h.b, .int .i64 h.p, .int .i64 h.h, .bool h.on]) (.agg #[.int .i64 h'.k, .int .i64 h'.pt, .int .i64 h'.r, .int .i64 h'.c, .int .i64 h'.b, .int .i64 h'.p, .int .i64 h'.h, .bool h'.on])).run Tryz.prog w = .ok (.bool false) w := fun w => by subst he; exact neqOu_same h w
    replace he : Hid _ := he
    go_upto_region 6 with fail
    refine wp_region_held (S := fun Y => Below wr.heap.size wr Y) (by kernel_rfl) ?_
    change wpAnyH _ _ _ _ _ _ _ _ (World.drew _)
    have hb0 : Below wr.heap.size wr wr.drew := (Below.refl _ _).drew
    obtain ⟨u0, hy0⟩ := mk_ wr.drew
    rw [← hy0] at hb0 ⊢
    clear hy0
    refine tw 0 16 (.slice (some ⟨b, off, none⟩) L.length cap) ?_
    refine tw 1 17 (.int .i64 (k : Int)) ?_
    refine tw 2 18 (.pointer (some ⟨b, off + k * 8, none⟩)) ?_ (hy := by intro Y hSw; go_simp; try omega)
    refine tw 3 19 (.agg #[.int .i64 h.k, .int .i64 h.pt, .int .i64 h.r, .int .i64 h.c, .int .i64 h.b, .int .i64 h.p, .int .i64 h.h, .bool h.on]) ?_ (hy := by intro Y hSw; obtain ⟨X0, X1, X2, X3, X4, X5, X6, X7⟩ := hc Y hSw; go_simp)
    refine tw 4 20 (.slice (some ⟨b', off', none⟩) L.length cap') ?_
    refine tw 5 21 (.int .i64 (k : Int)) ?_
    refine tw 6 22 (.pointer (some ⟨b', off' + k * 8, none⟩)) ?_ (hy := by intro Y hSw; go_simp; try omega)
    refine tw 7 23 (.agg #[.int .i64 h'.k, .int .i64 h'.pt, .int .i64 h'.r, .int .i64 h'.c, .int .i64 h'.b, .int .i64 h'.p, .int .i64 h'.h, .bool h'.on]) ?_ (hy := by intro Y hSw; obtain ⟨X0, X1, X2, X3, X4, X5, X6, X7⟩ := hc' Y hSw; go_simp)
    refine tw 8 24 (.bool false) ?_ (hy := by intro w hSw; have hq := heq w; go_simp)
    refine wpAnyH_done (by kernel_rfl) ?_ _
    go_wp2
    go_roundw
    case rel =>
     refine ⟨k + 1, by omega, by go_num, fun j hj => ?_, hb.trans (hb0.mono hb.size)⟩
     by_cases ej : j = k
     ·
      rw [ej, hh.out, hh'.out]; exact he.out
     ·
      exact hF.out j (by omega)
    case measure => simp [intOf]; omega
   ·
    have heq : ∀ w, (binOp .neq 92 (.agg #[.int .i64 h.k, .int .i64 h.pt, .int .i64 h.r, .int .i64 h.c, .int .i64 h.b, .int .i64 h.p, .int .i64 h.h, .bool h.on]) (.agg #[.int .i64 h'.k, .int .i64 h'.pt, .int .i64 h'.r, .int .i64 h'.c, .int .i64 h'.b, .int .i64 h'.p, .int .i64 h'.h, .bool h'.on])).run Tryz.prog w = .ok (.bool true) w := fun w => neqOu_else he w
    replace he : Hid _ := he
    go_upto_region 6 with fail
    refine wp_region_held (S := fun Y => Below wr.heap.size wr Y) (by kernel_rfl) ?_
    change wpAnyH _ _ _ _ _ _ _ _ (World.drew _)
    have hb0 : Below wr.heap.size wr wr.drew := (Below.refl _ _).drew
    obtain ⟨u0, hy0⟩ := mk_ wr.drew
    rw [← hy0] at hb0 ⊢
    clear hy0
    refine tw 0 16 (.slice (some ⟨b, off, none⟩) L.length cap) ?_
    refine tw 1 17 (.int .i64 (k : Int)) ?_
    refine tw 2 18 (.pointer (some ⟨b, off + k * 8, none⟩)) ?_ (hy := by intro Y hSw; go_simp; try omega)
    refine tw 3 19 (.agg #[.int .i64 h.k, .int .i64 h.pt, .int .i64 h.r, .int .i64 h.c, .int .i64 h.b, .int .i64 h.p, .int .i64 h.h, .bool h.on]) ?_ (hy := by intro Y hSw; obtain ⟨X0, X1, X2, X3, X4, X5, X6, X7⟩ := hc Y hSw; go_simp)
    refine tw 4 20 (.slice (some ⟨b', off', none⟩) L.length cap') ?_
    refine tw 5 21 (.int .i64 (k : Int)) ?_
    refine tw 6 22 (.pointer (some ⟨b', off' + k * 8, none⟩)) ?_ (hy := by intro Y hSw; go_simp; try omega)
    refine tw 7 23 (.agg #[.int .i64 h'.k, .int .i64 h'.pt, .int .i64 h'.r, .int .i64 h'.c, .int .i64 h'.b, .int .i64 h'.p, .int .i64 h'.h, .bool h'.on]) ?_ (hy := by intro Y hSw; obtain ⟨X0, X1, X2, X3, X4, X5, X6, X7⟩ := hc' Y hSw; go_simp)
    refine tw 8 24 (.bool true) ?_ (hy := by intro w hSw; have hq := heq w; go_simp)
    refine wpAnyH_done (by kernel_rfl) ?_ _
    go_wp2
    go_ret
    refine ⟨YN.no (fun q => ?_), hb.trans (hb0.mono hb.size)⟩
    have := hQ.out.1 q
    exact he.out (hh.out.symm.trans ((congrArg (fun z => z.getD k Ou.nil) this).trans hh'.out))
  ·
   obtain rfl : k = L.length := by omega
   go_wp2
   go_ret
   refine ⟨YN.yes (hQ.out.2 ?_), hb⟩
   refine List.ext_getElem hll.out.symm fun i h1 h2 => ?_
   have := hF.out i h1
   simpa [List.getD, h1, h2] using this
theorem neqBo_same (x : Bool) (w : World) : (binOp .neq 4 (.bool x) (.bool x)).run Tryz.prog w = .ok (.bool false) w := by
 simp [go_sem]
theorem neqBo_else {x y : Bool} (h : x ≠ y) (w : World) : (binOp .neq 4 (.bool x) (.bool y)).run Tryz.prog w = .ok (.bool true) w := by
 simp [go_sem, h]
set_option maxHeartbeats 4000000 in
theorem boEql (ad ad' : Option Addr) (cap cap' : Nat) (L L' : List Bool) (w : World) (hv : FView boEnc w ad L) (hv' : FView boEnc w ad' L') (hl : L.length ≤ 1048576) (hl' : L'.length ≤ 1048576) :
  Calls Tryz.prog 65 #[.slice ad L.length cap, .slice ad' L'.length cap'] w fun e w' => YN e (L = L') ∧ Below w.heap.size w w' := by
 suffices H : ∀ Q : Prop, Hid (Q ↔ L = L') → Calls Tryz.prog 65 #[.slice ad L.length cap, .slice ad' L'.length cap'] w fun e w' => YN e Q ∧ Below w.heap.size w w' from H _ Iff.rfl
 intro Q hQ
 have hB := hv.lt boEnc_len (by omega)
 have hB' := hv'.lt boEnc_len (by omega)
 by_cases hle : (L.length : Int) = (L'.length : Int)
 rotate_left
 ·
  have d1 : ((L.length : Int) != (L'.length : Int)) = true := by simp; omega
  have d2 : decide ((L.length : Int) = (L'.length : Int)) = false := decide_eq_false hle
  replace hQ : Hid (¬ Q) := fun h => by
   have := congrArg List.length (hQ.out.1 h)
   omega
  replace hle : Hid _ := hle
  go_enter Tryz.func65, Tryz.ntmps65
  go_wp2
  go_ret
  exact ⟨YN.no hQ.out, Below.refl _ _⟩
 have hll : Hid (L'.length = L.length) := by unfold Hid; omega
 rw [hll.out]
 clear hle
 go_enter Tryz.func65, Tryz.ntmps65
 go_wp2
 go_loopw [13] (fun i wr => ∃ k : Nat, k ≤ L.length ∧ i = .int .i64 k ∧ Hid (∀ j, j < k → L.getD j false = L'.getD j false) ∧ Below w.heap.size w wr) (fun i _ => L.length - (intOf i).toNat)
 case atStart => exact ⟨0, Nat.zero_le _, rfl, fun j hj => absurd hj (by omega), Below.refl _ _⟩
 case round =>
  obtain ⟨k, hk, rfl, hF, hb⟩ := hrel
  by_cases hlt : k < L.length
  ·
   obtain ⟨b, off, rfl, _⟩ := hv (by omega)
   obtain ⟨b', off', rfl, _⟩ := hv' (by have := hll.out; omega)
   obtain ⟨h, hh⟩ : ∃ h, L.getD k false = h := ⟨_, rfl⟩
   obtain ⟨h', hh'⟩ : ∃ h, L'.getD k false = h := ⟨_, rfl⟩
   have hc : ∀ Y, Below wr.heap.size wr Y → Y.cell? ⟨b, off + k, none⟩ = some (.bool h) := fun Y hY => by have h1 := (hv.below (hb.trans (hY.mono hb.size)) hB).at_ boEnc_len false hlt 0 (.bool (L.getD k false)) rfl; rw [hh] at h1; simpa using h1
   have hc' : ∀ Y, Below wr.heap.size wr Y → Y.cell? ⟨b', off' + k, none⟩ = some (.bool h') := fun Y hY => by have h1 := (hv'.below (hb.trans (hY.mono hb.size)) hB').at_ boEnc_len false (by have := hll.out; omega) 0 (.bool (L'.getD k false)) rfl; rw [hh'] at h1; simpa using h1
   replace hh : Hid _ := hh
   replace hh' : Hid _ := hh'
   clear hv hv' hB hB'
   by_cases he : h = h'
   ·
    have heq : ∀ w, (binOp .neq 4 (.bool h) (.bool h')).run Tryz.prog w = .ok (.bool false) w := fun w => by subst he; exact neqBo_same h w
    replace he : Hid _ := he
    go_upto_region 6 with fail
    refine wp_region_held (S := fun Y => Below wr.heap.size wr Y) (by kernel_rfl) ?_
    change wpAnyH _ _ _ _ _ _ _ _ (World.drew _)
    have hb0 : Below wr.heap.size wr wr.drew := (Below.refl _ _).drew
    obtain ⟨u0, hy0⟩ := mk_ wr.drew
    rw [← hy0] at hb0 ⊢
    clear hy0
    refine tw 0 16 (.slice (some ⟨b, off, none⟩) L.length cap) ?_
    refine tw 1 17 (.int .i64 (k : Int)) ?_
    refine tw 2 18 (.pointer (some ⟨b, off + k, none⟩)) ?_ (hy := by intro Y hSw; go_simp; try omega)
    refine tw 3 19 (.bool h) ?_ (hy := by intro Y hSw; have X0 := hc Y hSw; go_simp)
    refine tw 4 20 (.slice (some ⟨b', off', none⟩) L.length cap') ?_
    refine tw 5 21 (.int .i64 (k : Int)) ?_
    refine tw 6 22 (.pointer (some ⟨b', off' + k, none⟩)) ?_ (hy := by intro Y hSw; go_simp; try omega)
    refine tw 7 23 (.bool h') ?_ (hy := by intro Y hSw; have X0 := hc' Y hSw; go_simp)
    refine tw 8 24 (.bool false) ?_ (hy := by intro w hSw; have hq := heq w; go_simp)
    refine wpAnyH_done (by kernel_rfl) ?_ _
    go_wp2
    go_roundw
    case rel =>
     refine ⟨k + 1, by omega, by go_num, fun j hj => ?_, hb.trans (hb0.mono hb.size)⟩
     by_cases ej : j = k
     ·
      rw [ej, hh.out, hh'.out]; exact he.out
     ·
      exact hF.out j (by omega)
    case measure => simp [intOf]; omega
   ·
    have heq : ∀ w, (binOp .neq 4 (.bool h) (.bool h')).run Tryz.prog w = .ok (.bool true) w := fun w => neqBo_else he w
    replace he : Hid _ := he
    go_upto_region 6 with fail
    refine wp_region_held (S := fun Y => Below wr.heap.size wr Y) (by kernel_rfl) ?_
    change wpAnyH _ _ _ _ _ _ _ _ (World.drew _)
    have hb0 : Below wr.heap.size wr wr.drew := (Below.refl _ _).drew
    obtain ⟨u0, hy0⟩ := mk_ wr.drew
    rw [← hy0] at hb0 ⊢
    clear hy0
    refine tw 0 16 (.slice (some ⟨b, off, none⟩) L.length cap) ?_
    refine tw 1 17 (.int .i64 (k : Int)) ?_
    refine tw 2 18 (.pointer (some ⟨b, off + k, none⟩)) ?_ (hy := by intro Y hSw; go_simp; try omega)
    refine tw 3 19 (.bool h) ?_ (hy := by intro Y hSw; have X0 := hc Y hSw; go_simp)
    refine tw 4 20 (.slice (some ⟨b', off', none⟩) L.length cap') ?_
    refine tw 5 21 (.int .i64 (k : Int)) ?_
    refine tw 6 22 (.pointer (some ⟨b', off' + k, none⟩)) ?_ (hy := by intro Y hSw; go_simp; try omega)
    refine tw 7 23 (.bool h') ?_ (hy := by intro Y hSw; have X0 := hc' Y hSw; go_simp)
    refine tw 8 24 (.bool true) ?_ (hy := by intro w hSw; have hq := heq w; go_simp)
    refine wpAnyH_done (by kernel_rfl) ?_ _
    go_wp2
    go_ret
    refine ⟨YN.no (fun q => ?_), hb.trans (hb0.mono hb.size)⟩
    have := hQ.out.1 q
    exact he.out (hh.out.symm.trans ((congrArg (fun z => z.getD k false) this).trans hh'.out))
  ·
   obtain rfl : k = L.length := by omega
   go_wp2
   go_ret
   refine ⟨YN.yes (hQ.out.2 ?_), hb⟩
   refine List.ext_getElem hll.out.symm fun i h1 h2 => ?_
   have := hF.out i h1
   simpa [List.getD, h1, h2] using this
end Go.Proofs.YtnpiljegdiconabGreat
