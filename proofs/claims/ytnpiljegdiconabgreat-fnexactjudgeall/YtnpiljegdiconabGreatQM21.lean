import Derived.Test.YtnpiljegdiconabGreatQM17
namespace Go.Proofs.YtnpiljegdiconabGreat
open Go.ChangeShapes Go.WideShapes Go.ChangeAt Go.RowKit
open Go.ChangeMaps (open_string shut_string)
set_option linter.unusedVariables false
set_option maxRecDepth 100000
theorem begJ_at {A B : List Ik} (h : begJ A B) {k : Nat} (hk : k < A.length) : A.getD k Ik.nil = B.getD k Ik.nil := by
 have h1 : B.take A.length = A := h
 have h2 : (B.take A.length).getD k Ik.nil = B.getD k Ik.nil := by
  simp only [List.getD_eq_getElem?_getD, List.getElem?_take_of_lt hk]
 rw [← h2, h1]
theorem begJ_of {A B : List Ik} (hl : A.length ≤ B.length) (h : ∀ j, j < A.length → A.getD j Ik.nil = B.getD j Ik.nil) : begJ A B := by
 show B.take A.length = A
 apply List.ext_getElem
 ·
  rw [List.length_take]; omega
 ·
  intro i h1 h2
  have h3 := h i h2
  rw [List.getD_eq_getElem?_getD, List.getD_eq_getElem?_getD, List.getElem?_eq_getElem h2, List.getElem?_eq_getElem (by omega)] at h3
  rw [List.getElem_take]
  exact h3.symm
set_option linter.unusedSimpArgs false in
set_option maxHeartbeats 4000000 in
theorem begS (ad ad' : Option Addr) (cap cap' : Nat) (L L' : List Ik) (w : World) (hv : FView ikEnc w ad L) (hv' : FView ikEnc w ad' L') (hl : L.length ≤ 1048576) (hl' : L'.length ≤ 1048576) :
  Calls Tryz.prog 19 #[.slice ad L.length cap, .slice ad' L'.length cap'] w fun e w' => YN e (begJ L L') ∧ Below w.heap.size w w' := by
 suffices H : ∀ Q : Prop, Hid (Q ↔ begJ L L') → Calls Tryz.prog 19 #[.slice ad L.length cap, .slice ad' L'.length cap'] w fun e w' => YN e Q ∧ Below w.heap.size w w' from H _ Iff.rfl
 intro Q hQ
 have hB := hv.lt ikEnc_len (by omega)
 have hB' := hv'.lt ikEnc_len (by omega)
 go_enter Tryz.func19, Tryz.ntmps19
 go_upto_region 2 with fail
 go_loopw [5] (fun i wr => ∃ k : Nat, k ≤ L.length ∧ k ≤ L'.length ∧ i = .int .i64 (k : Int) ∧ Hid (∀ j, j < k → L.getD j Ik.nil = L'.getD j Ik.nil) ∧ Below w.heap.size w wr) (fun i _ => L.length - (intOf i).toNat)
 case atStart => exact ⟨0, Nat.zero_le _, Nat.zero_le _, rfl, fun j hj => absurd hj (by omega), Below.refl _ _⟩
 case round =>
  obtain ⟨k, hk, hk', rfl, hF, hb⟩ := hrel
  by_cases hlt : k < L.length
  ·
   have d1 : decide ((k : Int) < (L.length : Int)) = true := decide_eq_true (by omega)
   by_cases hlt' : k < L'.length
   ·
    have d2 : decide ((k : Int) < (L'.length : Int)) = true := decide_eq_true (by omega)
    obtain ⟨b, off, rfl, _⟩ := hv (by omega)
    obtain ⟨b', off', rfl, _⟩ := hv' (by omega)
    obtain ⟨h, hh⟩ : ∃ h, L.getD k Ik.nil = h := ⟨_, rfl⟩
    obtain ⟨h', hh'⟩ : ∃ h, L'.getD k Ik.nil = h := ⟨_, rfl⟩
    have hc : ∀ Y, Below wr.heap.size wr Y → IkAtO Y b (off + k * 8) h := fun Y hY => by rw [← hh]; exact ikAtO_of ((hv.below (hb.trans (hY.mono hb.size)) hB).at_ ikEnc_len Ik.nil hlt)
    have hc' : ∀ Y, Below wr.heap.size wr Y → IkAtO Y b' (off' + k * 8) h' := fun Y hY => by rw [← hh']; exact ikAtO_of ((hv'.below (hb.trans (hY.mono hb.size)) hB').at_ ikEnc_len Ik.nil hlt')
    replace hh : Hid _ := hh
    replace hh' : Hid _ := hh'
    clear hv hv' hB hB'
    by_cases he : h = h'
    ·
     have heq : ∀ w, (binOp .neq 80 (.agg #[.int .i64 h.k, .int .i64 h.q, .int .i64 h.r, .int .i64 h.c, .int .i64 h.b, .int .i64 h.p, .int .i64 h.h, .bool h.up]) (.agg #[.int .i64 h'.k, .int .i64 h'.q, .int .i64 h'.r, .int .i64 h'.c, .int .i64 h'.b, .int .i64 h'.p, .int .i64 h'.h, .bool h'.up])).run Tryz.prog w = .ok (.bool false) w := fun w => by subst he; exact neqIk_same h w
     replace he : Hid _ := he
     go_upto_region 4 with fail
     refine wp_region_held (S := fun Y => Below wr.heap.size wr Y) (by kernel_rfl) ?_
     change wpAnyH _ _ _ _ _ _ _ _ (World.drew _)
     have hb0 : Below wr.heap.size wr wr.drew := (Below.refl _ _).drew
     obtain ⟨u0, hu0⟩ := mk_ wr.drew
     rw [← hu0] at hb0 ⊢
     clear hu0
     refine tw 0 18 (.slice (some ⟨b, off, none⟩) L.length cap) ?_
     refine tw 1 19 (.int .i64 (k : Int)) ?_
     refine tw 2 20 (.pointer (some ⟨b, off + k * 8, none⟩)) ?_ (hy := by intro Y hSw; go_simp; try omega)
     refine tw 3 21 (.agg #[.int .i64 h.k, .int .i64 h.q, .int .i64 h.r, .int .i64 h.c, .int .i64 h.b, .int .i64 h.p, .int .i64 h.h, .bool h.up]) ?_ (hy := by intro Y hSw; obtain ⟨X0, X1, X2, X3, X4, X5, X6, X7⟩ := hc Y hSw; go_simp)
     refine tw 4 22 (.slice (some ⟨b', off', none⟩) L'.length cap') ?_
     refine tw 5 23 (.int .i64 (k : Int)) ?_
     refine tw 6 24 (.pointer (some ⟨b', off' + k * 8, none⟩)) ?_ (hy := by intro Y hSw; go_simp; try omega)
     refine tw 7 25 (.agg #[.int .i64 h'.k, .int .i64 h'.q, .int .i64 h'.r, .int .i64 h'.c, .int .i64 h'.b, .int .i64 h'.p, .int .i64 h'.h, .bool h'.up]) ?_ (hy := by intro Y hSw; obtain ⟨X0, X1, X2, X3, X4, X5, X6, X7⟩ := hc' Y hSw; go_simp)
     refine tw 8 26 (.bool false) ?_ (hy := by intro w hSw; have hq := heq w; go_simp)
     refine wpAnyH_done (by kernel_rfl) ?_ _
     go_wp2
     go_roundw
     case rel =>
      refine ⟨k + 1, by omega, by omega, by go_num, fun j hj => ?_, hb.trans (hb0.mono hb.size)⟩
      by_cases ej : j = k
      ·
       rw [ej, hh.out, hh'.out]; exact he.out
      ·
       exact hF.out j (by omega)
     case measure => simp [intOf]; omega
    ·
     have heq : ∀ w, (binOp .neq 80 (.agg #[.int .i64 h.k, .int .i64 h.q, .int .i64 h.r, .int .i64 h.c, .int .i64 h.b, .int .i64 h.p, .int .i64 h.h, .bool h.up]) (.agg #[.int .i64 h'.k, .int .i64 h'.q, .int .i64 h'.r, .int .i64 h'.c, .int .i64 h'.b, .int .i64 h'.p, .int .i64 h'.h, .bool h'.up])).run Tryz.prog w = .ok (.bool true) w := fun w => neqIk_else he w
     replace he : Hid _ := he
     go_upto_region 4 with fail
     refine wp_region_held (S := fun Y => Below wr.heap.size wr Y) (by kernel_rfl) ?_
     change wpAnyH _ _ _ _ _ _ _ _ (World.drew _)
     have hb0 : Below wr.heap.size wr wr.drew := (Below.refl _ _).drew
     obtain ⟨u0, hu0⟩ := mk_ wr.drew
     rw [← hu0] at hb0 ⊢
     clear hu0
     refine tw 0 18 (.slice (some ⟨b, off, none⟩) L.length cap) ?_
     refine tw 1 19 (.int .i64 (k : Int)) ?_
     refine tw 2 20 (.pointer (some ⟨b, off + k * 8, none⟩)) ?_ (hy := by intro Y hSw; go_simp; try omega)
     refine tw 3 21 (.agg #[.int .i64 h.k, .int .i64 h.q, .int .i64 h.r, .int .i64 h.c, .int .i64 h.b, .int .i64 h.p, .int .i64 h.h, .bool h.up]) ?_ (hy := by intro Y hSw; obtain ⟨X0, X1, X2, X3, X4, X5, X6, X7⟩ := hc Y hSw; go_simp)
     refine tw 4 22 (.slice (some ⟨b', off', none⟩) L'.length cap') ?_
     refine tw 5 23 (.int .i64 (k : Int)) ?_
     refine tw 6 24 (.pointer (some ⟨b', off' + k * 8, none⟩)) ?_ (hy := by intro Y hSw; go_simp; try omega)
     refine tw 7 25 (.agg #[.int .i64 h'.k, .int .i64 h'.q, .int .i64 h'.r, .int .i64 h'.c, .int .i64 h'.b, .int .i64 h'.p, .int .i64 h'.h, .bool h'.up]) ?_ (hy := by intro Y hSw; obtain ⟨X0, X1, X2, X3, X4, X5, X6, X7⟩ := hc' Y hSw; go_simp)
     refine tw 8 26 (.bool true) ?_ (hy := by intro w hSw; have hq := heq w; go_simp)
     refine wpAnyH_done (by kernel_rfl) ?_ _
     go_wp2
     go_ret
     refine ⟨YN.no (fun q => ?_), hb.trans (hb0.mono hb.size)⟩
     have h1 := begJ_at (hQ.out.1 q) hlt
     exact he.out (hh.out.symm.trans (h1.trans hh'.out))
   ·
    have d2 : decide ((k : Int) < (L'.length : Int)) = false := decide_eq_false (by omega)
    have d3 : decide ((L.length : Int) ≤ (L'.length : Int)) = false := decide_eq_false (by omega)
    have d3' : decide (L.length ≤ L'.length) = false := decide_eq_false (by omega)
    have hn : ¬ L.length ≤ L'.length := by omega
    replace hn : Hid (¬ L.length ≤ L'.length) := hn
    go_wp2
    go_ret
    exact ⟨YN.no (fun q => hn.out (begJ_len (hQ.out.1 q))), hb⟩
  ·
   obtain rfl : k = L.length := by omega
   have d1 : decide ((L.length : Int) < (L.length : Int)) = false := decide_eq_false (by omega)
   have d3 : decide ((L.length : Int) ≤ (L'.length : Int)) = true := decide_eq_true (by omega)
   have d3' : decide (L.length ≤ L'.length) = true := decide_eq_true hk'
   go_wp2
   go_ret
   exact ⟨YN.yes (hQ.out.2 (begJ_of hk' (fun j hj => hF.out j hj))), hb⟩
def okJ (x : BxD) (j : Nat) : Prop := mindsX x.p (j : Int) = true → begJ x.ln (x.two.getD j MiD.nil).m.lg ∧ (x.two.getD j MiD.nil).m.sd = (x.ln.length : Int)
theorem mindsX_ow {x : BxD} {s : Int} (h : mindsX x.p s = true) : s = x.rg.ow := by
 unfold mindsX at h
 rw [Bool.and_eq_true] at h
 exact (minds_is.1 h.2).2.2.2.1
theorem own_ok {x : BxD} (hb : bxOk x.p = true) : ownJ x.p ↔ ∀ j, j < 2 → okJ x j := by
 obtain ⟨o0, o1⟩ := bxOk_ow hb
 constructor
 ·
  intro h j hj hm
  have e : (j : Int) = x.rg.ow := mindsX_ow hm
  have h1 : begJ x.ln (mOf x.p x.rg.ow).lg ∧ (mOf x.p x.rg.ow).sd = (x.ln.length : Int) := h (by show mindsX x.p x.rg.ow = true; rw [← e]; exact hm)
  have e2 : mOf x.p x.rg.ow = (x.two.getD j MiD.nil).m := by rw [← e, mOf_p]; simp only [Int.toNat_natCast]
  rw [e2] at h1
  exact h1
 ·
  intro h hm
  obtain ⟨k, hk⟩ : ∃ k : Nat, x.rg.ow = (k : Int) := ⟨x.rg.ow.toNat, by omega⟩
  have hm : mindsX x.p x.rg.ow = true := hm
  have h1 := h k (by omega) (by rw [← hk]; exact hm)
  have e2 : mOf x.p x.rg.ow = (x.two.getD k MiD.nil).m := by rw [hk, mOf_p]; simp only [Int.toNat_natCast]
  show begJ x.ln (mOf x.p x.rg.ow).lg ∧ (mOf x.p x.rg.ow).sd = (x.ln.length : Int)
  rw [e2]
  exact h1
set_option linter.unusedSimpArgs false in
set_option maxHeartbeats 8000000 in
theorem jLogsS (x : BxD) (w : World) (hJ : BxJ w x) :
  Calls Tryz.prog 6 #[.agg #[.int .i64 x.id, .int .i64 x.po, .int .i64 x.rg.ep, .int .i64 x.rg.ow, .int .i64 x.rg.pa, .slice x.aT x.two.length x.cT, .slice x.aN x.net.length x.cN, .slice x.aG x.ga.length x.cG, .slice x.aL x.ln.length x.cL, .slice x.aS x.sd.length x.cS]] w fun e w' => YN e (bxOk x.p = true ∧ ownJ x.p ∧ hasJ x.p) ∧ Below w.heap.size w w' := by
 obtain ⟨Q, hQ⟩ : ∃ Q : Prop, Q = (bxOk x.p = true ∧ ownJ x.p ∧ hasJ x.p) := ⟨_, rfl⟩
 rw [← hQ]
 replace hQ : Hid _ := hQ
 obtain ⟨y, hy⟩ := mk_ (w.alloc (Obj.cells #[.int .i64 x.id, .int .i64 x.po, .int .i64 x.rg.ep, .int .i64 x.rg.ow, .int .i64 x.rg.pa, .slice x.aT x.two.length x.cT, .slice x.aN x.net.length x.cN, .slice x.aG x.ga.length x.cG, .slice x.aL x.ln.length x.cL, .slice x.aS x.sd.length x.cS] 39))
 have B : Below w.heap.size w y := by rw [hy]; exact below_new _
 have A : BxAt y w.heap.size x := by rw [hy]; exact BxAt.new w _ x
 have J := hJ.later B
 go_enter Tryz.func6, Tryz.ntmps6
 go_upto_region 1 with fail
 rw [← hy]
 clear hy
 have cc := A
 obtain ⟨a0, a1, a2, a3, a4, a5, a6, a7, a8, a9⟩ := cc
 go_wp2_with fail
 go_at_call 17
 clear a0 a1 a2 a3 a4 a5 a6 a7 a8 a9
 refine (boxOkS x y J.v).mono ?_
 rintro e u1 ⟨rfl, kq⟩
 have A := A.below kq A.lt
 have J := J.later kq
 have B := B.trans (kq.mono B.size)
 clear kq
 obtain ⟨ob, hob⟩ : ∃ b, bxOk x.p = b := ⟨_, rfl⟩
 rw [hob]
 cases ob
 ·
  replace hob : Hid _ := hob
  go_wp2
  go_ret
  exact ⟨YN.no (fun q_ => by have h1 := (hQ.out ▸ q_ : bxOk x.p = true ∧ ownJ x.p ∧ hasJ x.p).1; rw [hob.out] at h1; cases h1), B⟩
 have hb := hob
 have hln : x.ln.length ≤ 60 := (bxOk_smJ hb).2.2.2.2.1
 obtain ⟨o0, o1⟩ := bxOk_ow hb
 obtain ⟨h2, hmi, _⟩ := bxOk_smJ hb
 have hml : ∀ j, j < 2 → (x.two.getD j MiD.nil).m.lg.length ≤ 60 := fun j hj => miOk_lgJ (hmi j hj)
 have hQ2 : Hid (Q ↔ (∀ j, j < 2 → okJ x j) ∧ hasJ x.p) := by unfold Hid; rw [hQ.out, ← own_ok hb]; exact ⟨fun h => h.2, fun h => ⟨hb, h⟩⟩
 replace h2 : Hid _ := h2
 replace hb : Hid _ := hb
 clear hQ hob hmi
 go_upto_region 4 with fail
 go_loopw [3] (fun i wr => ∃ k : Nat, k ≤ 2 ∧ i = .int .i64 (k : Int) ∧ Hid (∀ j, j < k → okJ x j) ∧ Below u1.heap.size u1 wr) (fun i _ => 2 - (intOf i).toNat)
 case atStart => exact ⟨0, Nat.zero_le _, rfl, fun j hj => absurd hj (by omega), Below.refl _ _⟩
 case round =>
  obtain ⟨k, hk, rfl, hF, hb9⟩ := hrel
  have A := A.below hb9 A.lt
  have J := J.later hb9
  have B := B.trans (hb9.mono B.size)
  by_cases hlt : k < 2
  ·
   have hkl : k < x.two.length := by have := h2.out; omega
   have hcl := J.c k hkl
   have hml := hml k hlt
   obtain ⟨g, off, hat, _⟩ := J.v.t (by omega)
   obtain ⟨m, hm⟩ : ∃ m, x.two.getD k MiD.nil = m := ⟨_, rfl⟩
   have M0 : MdAtO wr g (off + k * 7) m := by have h1 := J.v.t; rw [hat] at h1; have := mdAtO_of (h1.at_ mdEnc_len MiD.nil hkl); rw [hm] at this; exact this
   have gl : g < wr.heap.size := J.v.t.lt mdEnc_len (by omega) _ hat (by omega)
   rw [hm] at hcl hml
   have hvl := J.v.l k hkl
   rw [hm] at hvl
   have hok : Hid (okJ x k ↔ (mindsX x.p (k : Int) = true → begJ x.ln m.m.lg ∧ m.m.sd = (x.ln.length : Int))) := by unfold Hid okJ; rw [hm]
   clear hm
   replace hat : Hid _ := hat
   have cc := A
   obtain ⟨a0, a1, a2, a3, a4, a5, a6, a7, a8, a9⟩ := cc
   rw [hat.out] at a5
   obtain ⟨m0, m1, m2, m3, m4, m5, m6⟩ := M0
   have d0 : decide ((k : Int) < 2) = true := decide_eq_true (by omega)
   go_upto_region 7 with fail
   clear m0 m1 m2 m3 m4 m5 m6 d0 gl a0 a1 a2 a3 a4 a5 a6 a7 a8 a9
   obtain ⟨⟨⟨up, li, ep, lg, sd, ac, al⟩, ad, cap⟩, rfl⟩ : ∃ m_, m_ = m := ⟨m, rfl⟩
   dsimp only at hok hcl hml hvl ⊢
   obtain ⟨y2, hy2⟩ := mk_ (wr.alloc (Obj.cells #[.bool up, .int .i64 li, .int .i64 ep, .slice ad lg.length cap, .int .i64 sd, .int .i64 ac, .int .i64 al] 49))
   rw [← hy2]
   have kq : Below wr.heap.size wr y2 := by rw [hy2]; exact below_new _
   have M2 : MiAt y2 wr.heap.size ⟨up, li, ep, lg, sd, ac, al⟩ (.slice ad lg.length cap) := by rw [hy2]; constructor <;> simp [go_sem]
   have A2 := A.below kq A.lt
   have J2 := J.later kq
   have B2 := B.trans (kq.mono B.size)
   have hb9 := hb9.trans (kq.mono hb9.size)
   have hvl := hvl.below kq (hvl.lt ikEnc_len (by omega))
   clear hy2 kq A J B
   have cc := A2
   obtain ⟨a0, a1, a2, a3, a4, a5, a6, a7, a8, a9⟩ := cc
   have cc := M2
   obtain ⟨n0, n1, n2, n3, n4, n5, n6⟩ := cc
   go_wp2_with fail
   go_at_call 18
   clear a0 a1 a2 a3 a4 a5 a6 a7 a8 a9 n0 n1 n2 n3 n4 n5 n6
   refine (mindsXS x (k : Int) y2 J2.v).mono ?_
   rintro e z1 ⟨rfl, kq⟩
   have A2 := A2.below kq A2.lt
   have M2 := M2.below kq M2.lt
   have J2 := J2.later kq
   have B2 := B2.trans (kq.mono B2.size)
   have hb9 := hb9.trans (kq.mono hb9.size)
   have hvl := hvl.below kq (hvl.lt ikEnc_len (by omega))
   clear kq
   obtain ⟨mb, hmb⟩ : ∃ b, mindsX x.p (k : Int) = b := ⟨_, rfl⟩
   rw [hmb]
   rw [hmb] at hok
   replace hmb : Hid _ := hmb
   cases mb
   ·
    have cc := A2
    obtain ⟨a0, a1, a2, a3, a4, a5, a6, a7, a8, a9⟩ := cc
    have cc := M2
    obtain ⟨n0, n1, n2, n3, n4, n5, n6⟩ := cc
    go_wp2
    go_roundw
    case rel =>
     refine ⟨k + 1, by omega, by go_num, fun j hj => ?_, hb9⟩
     by_cases ej : j = k
     ·
      rw [ej]; exact hok.out.2 (fun h => by cases h)
     ·
      exact hF.out j (by omega)
    case measure => simp [intOf]; omega
   ·
    have cc := A2
    obtain ⟨a0, a1, a2, a3, a4, a5, a6, a7, a8, a9⟩ := cc
    have cc := M2
    obtain ⟨n0, n1, n2, n3, n4, n5, n6⟩ := cc
    go_wp2_with fail
    go_at_call 19
    clear a0 a1 a2 a3 a4 a5 a6 a7 a8 a9 n0 n1 n2 n3 n4 n5 n6
    refine (begS x.aL ad x.cL cap x.ln lg z1 J2.v.i hvl (by omega) (by omega)).mono ?_
    rintro e z2 ⟨⟨rc, rfl, hrc⟩, kq⟩
    have A2 := A2.below kq A2.lt
    have M2 := M2.below kq M2.lt
    have J2 := J2.later kq
    have B2 := B2.trans (kq.mono B2.size)
    have hb9 := hb9.trans (kq.mono hb9.size)
    have hvl := hvl.below kq (hvl.lt ikEnc_len (by omega))
    clear kq
    replace hrc : Hid _ := hrc
    cases rc
    ·
     have cc := A2
     obtain ⟨a0, a1, a2, a3, a4, a5, a6, a7, a8, a9⟩ := cc
     have cc := M2
     obtain ⟨n0, n1, n2, n3, n4, n5, n6⟩ := cc
     go_wp2
     go_ret
     exact ⟨YN.no (fun q_ => by have h1 := (hok.out.1 ((hQ2.out.1 q_).1 k hlt) (by first | rfl | trivial)).1; have h2_ := hrc.out.2 h1; first | cases h2_ | exact h2_.elim), B2⟩
    ·
     have hbj : Hid (begJ x.ln lg) := by unfold Hid; first | exact hrc.out.1 rfl | exact hrc.out.1 trivial
     clear hrc
     by_cases hs : sd = (x.ln.length : Int)
     ·
      have d1 : (sd != (x.ln.length : Int)) = false := by simpa using hs
      replace hs : Hid _ := hs
      have cc := A2
      obtain ⟨a0, a1, a2, a3, a4, a5, a6, a7, a8, a9⟩ := cc
      have cc := M2
      obtain ⟨n0, n1, n2, n3, n4, n5, n6⟩ := cc
      go_wp2
      go_roundw
      case rel =>
       refine ⟨k + 1, by omega, by go_num, fun j hj => ?_, hb9⟩
       by_cases ej : j = k
       ·
        rw [ej]; exact hok.out.2 (fun _ => ⟨hbj.out, hs.out⟩)
       ·
        exact hF.out j (by omega)
      case measure => simp [intOf]; omega
     ·
      have d1 : (sd != (x.ln.length : Int)) = true := by simpa using hs
      replace hs : Hid (¬ sd = (x.ln.length : Int)) := hs
      have cc := A2
      obtain ⟨a0, a1, a2, a3, a4, a5, a6, a7, a8, a9⟩ := cc
      have cc := M2
      obtain ⟨n0, n1, n2, n3, n4, n5, n6⟩ := cc
      go_wp2
      go_ret
      exact ⟨YN.no (fun q_ => hs.out (hok.out.1 ((hQ2.out.1 q_).1 k hlt) (by first | rfl | trivial)).2), B2⟩
  ·
   obtain rfl : k = 2 := by omega
   have hQ3 : Hid (Q ↔ hasJ x.p) := by unfold Hid; rw [hQ2.out]; exact ⟨fun h => h.2, fun h => ⟨hF.out, h⟩⟩
   clear hQ2 hF
   obtain ⟨k, hk_⟩ : ∃ k : Nat, 1 - x.rg.ow = (k : Int) := ⟨(1 - x.rg.ow).toNat, by omega⟩
   have hkl : k < x.two.length := by have := h2.out; omega
   have hwr : IntKind.i64.wrap (1 - x.rg.ow) = (k : Int) := by rw [IntKind.wrap_i64]; omega
   have hcl := J.c k hkl
   have hml := hml k (by omega)
   obtain ⟨g, off, hat, _⟩ := J.v.t (by omega)
   obtain ⟨m, hm⟩ : ∃ m, x.two.getD k MiD.nil = m := ⟨_, rfl⟩
   have M0 : MdAtO wr g (off + k * 7) m := by have h1 := J.v.t; rw [hat] at h1; have := mdAtO_of (h1.at_ mdEnc_len MiD.nil hkl); rw [hm] at this; exact this
   have gl : g < wr.heap.size := J.v.t.lt mdEnc_len (by omega) _ hat (by omega)
   rw [hm] at hcl hml
   have hvl := J.v.l k hkl
   rw [hm] at hvl
   have hmo : mOf x.p (1 - x.rg.ow) = m.m := by rw [hk_, mOf_p]; simp only [Int.toNat_natCast]; rw [hm]
   have hQ4 : Hid (Q ↔ (pairJ x.p → begJ x.ln m.m.lg)) := by unfold Hid; rw [hQ3.out]; unfold hasJ; show (pairJ x.p → begJ x.ln (mOf x.p (1 - x.rg.ow)).lg) ↔ _; rw [hmo]
   clear hm hmo hQ3 hk_
   replace hat : Hid _ := hat
   have hBl := hvl.lt ikEnc_len (by omega)
   go_upto_region 9 with fail
   refine wp_region_held (S := fun Y => Below wr.heap.size wr Y) (by kernel_rfl) ?_
   change wpAnyH _ _ _ _ _ _ _ _ (World.drew _)
   have hb0 : Below wr.heap.size wr wr.drew := (Below.refl _ _).drew
   obtain ⟨u0, hu0⟩ := mk_ wr.drew
   rw [← hu0] at hb0 ⊢
   clear hu0
   refine tw 0 36 (.agg #[.int .i64 x.id, .int .i64 x.po, .int .i64 x.rg.ep, .int .i64 x.rg.ow, .int .i64 x.rg.pa, .slice x.aT x.two.length x.cT, .slice x.aN x.net.length x.cN, .slice x.aG x.ga.length x.cG, .slice x.aL x.ln.length x.cL, .slice x.aS x.sd.length x.cS]) ?_ (hy := by intro Y hSw; obtain ⟨X0, X1, X2, X3, X4, X5, X6, X7, X8, X9⟩ := A.below hSw A.lt; go_simp)
   refine w1 1 fun Kz hKz => ?_
   go_simp
   go_at_call 20
   refine (heirS x u0 (J.later hb0)).mono ?_
   rintro e z1 ⟨⟨rb, rfl, hrb0⟩, kq⟩
   have hb1 : Below wr.heap.size wr z1 := hb0.trans (kq.mono hb0.size)
   have hrb : Hid (rb = true ↔ pairJ x.p) := by unfold Hid; rw [hrb0]; exact ⟨fun h => h.2, fun h => ⟨hb.out, h⟩⟩
   clear kq hrb0
   refine hKz _ _ ⟨hb1, ?_⟩
   clear hKz Kz
   cases rb
   ·
    refine tw 2 38 (.bool true) ?_
    refine tw 3 39 (.bool true) ?_
    refine ts 4 40 ?_
    refine ts 5 41 ?_
    refine ts 6 42 ?_
    refine ts 7 43 ?_
    refine ts 8 44 ?_
    refine ts 9 45 ?_
    refine ts 10 46 ?_
    refine ts 11 47 ?_
    refine ts 12 48 ?_
    refine ts 13 49 ?_
    refine ts 14 50 ?_
    refine ts 15 51 ?_
    refine tw 16 52 (.bool true) ?_
    refine tw 17 2 (.bool true) ?_
    refine wpAnyH_done (by kernel_rfl) ?_ _
    have B := B.trans (hb1.mono B.size)
    go_wp2
    go_ret
    exact ⟨YN.yes (hQ4.out.2 (fun h => by have h1 := hrb.out.2 h; first | cases h1 | exact h1.elim)), B⟩
   ·
    have hpj : Hid (pairJ x.p) := by unfold Hid; first | exact hrb.out.1 rfl | exact hrb.out.1 trivial
    clear hrb
    refine tw 2 38 (.bool false) ?_
    refine tw 3 39 (.bool false) ?_
    refine tw 4 40 (.pointer (some ⟨w.heap.size, 8, none⟩)) ?_
    refine tw 5 41 (.slice x.aL x.ln.length x.cL) ?_ (hy := by intro Y hSw; obtain ⟨X0, X1, X2, X3, X4, X5, X6, X7, X8, X9⟩ := A.below hSw A.lt; go_simp)
    refine tw 6 42 (.pointer (some ⟨w.heap.size, 5, none⟩)) ?_
    refine tw 7 43 (.slice (some ⟨g, off, none⟩) x.two.length x.cT) ?_ (hy := by intro Y hSw; obtain ⟨X0, X1, X2, X3, X4, X5, X6, X7, X8, X9⟩ := A.below hSw A.lt; rw [hat.out] at X5; go_simp)
    refine tw 8 44 (.pointer (some ⟨w.heap.size, 2, none⟩)) ?_
    refine tw 9 45 (.pointer (some ⟨w.heap.size, 3, none⟩)) ?_
    refine tw 10 46 (.int .i64 x.rg.ow) ?_ (hy := by intro Y hSw; obtain ⟨X0, X1, X2, X3, X4, X5, X6, X7, X8, X9⟩ := A.below hSw A.lt; go_simp)
    refine tw 11 47 (.int .i64 (k : Int)) ?_ (hy := by intro Y hSw; have hq := hwr; go_simp)
    refine tw 12 48 (.pointer (some ⟨g, off + k * 7, none⟩)) ?_ (hy := by intro Y hSw; go_simp; try omega)
    refine tw 13 49 (.pointer (some ⟨g, off + k * 7 + 3, none⟩)) ?_
    refine tw 14 50 (.slice m.ad m.m.lg.length m.cap) ?_ (hy := by intro Y hSw; obtain ⟨X0, X1, X2, X3, X4, X5, X6⟩ := M0.belowJ hSw gl; go_simp)
    refine w1 15 fun Kz hKz => ?_
    go_simp
    go_at_call 19
    refine (begS x.aL m.ad x.cL m.cap x.ln m.m.lg z1 (J.later hb1).v.i (hvl.below hb1 hBl) (by omega) (by omega)).mono ?_
    rintro e z2 ⟨⟨rc, rfl, hrc⟩, kq⟩
    have hb2 : Below wr.heap.size wr z2 := hb1.trans (kq.mono hb1.size)
    clear kq
    replace hrc : Hid _ := hrc
    refine hKz _ _ ⟨hb2, ?_⟩
    clear hKz Kz
    refine tw 16 52 (.bool rc) ?_
    refine tw 17 2 (.bool rc) ?_
    refine wpAnyH_done (by kernel_rfl) ?_ _
    have B := B.trans (hb2.mono B.size)
    go_wp2
    go_ret
    exact ⟨YN.is (by rw [hQ4.out]; exact ⟨fun h _ => hrc.out.1 h, fun h => hrc.out.2 (h hpj.out)⟩), B⟩
open Go.MuLone
set_option maxHeartbeats 2000000 in
theorem regOfI (r : Rg) (w : World) :
  Calls Tryz.prog 125 #[.agg #[.int .i64 r.ep, .int .i64 r.ow, .int .i64 r.pa]] w fun e w' => ∃ q, e = .returned (.pointer (some ⟨q, 0, none⟩)) ∧ GBox w' q 0 r ∧ w.heap.size < q ∧ Below w.heap.size w w' := by
 obtain ⟨y, hy⟩ := mk_ ((w.alloc (Obj.cells #[.int .i64 r.ep, .int .i64 r.ow, .int .i64 r.pa] 33)).alloc (Obj.cells #[.int .i64 0, .int .i32 0, .int .u32 0, .int .i64 r.ow, .int .i64 r.pa] 185))
 have B0 : Below w.heap.size w y := by rw [hy]; exact ((Below.refl _ _).alloc (Nat.le_refl _) _).alloc (by simp) _
 have A : RgAt y w.heap.size r := by rw [hy]; constructor <;> simp [go_sem]
 have G : GBox y (w.heap.size + 1) 0 ⟨0, r.ow, r.pa⟩ := by rw [hy]; constructor <;> simp [go_sem]
 go_enter Tryz.func125, Tryz.ntmps125
 go_upto_region 2 with fail
 rw [← hy]
 clear hy
 refine wp_region_held (S := fun Y => RgAt Y w.heap.size r) (by kernel_rfl) ?_
 change wpAnyH _ _ _ _ _ _ _ _ (World.drew _)
 have kd : Below y.heap.size y y.drew := (Below.refl _ _).drew
 obtain ⟨u0, hu0⟩ := mk_ y.drew
 rw [← hu0] at kd ⊢
 clear hu0
 have hs0 : RgAt u0 w.heap.size r := A.below kd A.lt
 have G0 := G.below kd G.lt
 refine tw 0 10 (.pointer (some ⟨w.heap.size + 1, 0, none⟩)) ?_
 refine tw 1 11 (.pointer (some ⟨w.heap.size + 1, 0, none⟩)) ?_
 refine tw 2 12 (.pointer (some ⟨w.heap.size + 1, 0, none⟩)) ?_
 refine tw 3 13 (.pointer (some ⟨w.heap.size, 0, none⟩)) ?_
 refine tw 4 14 (.int .i64 r.ep) ?_ (hy := by intro Y hSw; obtain ⟨X0, X1, X2⟩ := hSw; go_simp)
 refine w1 5 fun Kz hKz => ?_
 go_simp
 go_at_call 145
 refine (storeG r.ep _ (w.heap.size + 1) u0 G0.c0 (G0.fr 0)).mono ?_
 rintro e u1 ⟨rfl, hu1⟩
 have G1 : GBox u1 (w.heap.size + 1) 0 r := by rw [hu1]; exact G0.setEp r.ep
 have hs1 : RgAt u1 w.heap.size r := hs0.keep (by rw [hu1]; exact Below.heap_setCell _ _ _ _ (by show w.heap.size ≠ w.heap.size + 1; omega))
 have B1 : Below w.heap.size w u1 := by rw [hu1]; exact (B0.trans (kd.mono B0.size)).setCell (p := ⟨w.heap.size + 1, 0, none⟩) (by show _ ≤ w.heap.size + 1; omega) _
 clear hu1
 refine hKz _ _ ⟨hs1, ?_⟩
 clear hKz Kz
 refine wpAnyH_done (by kernel_rfl) ?_ _
 go_wp2
 go_ret
 exact ⟨_, rfl, G1, by omega, B1⟩
end Go.Proofs.YtnpiljegdiconabGreat
