import Derived.Test.YtnpiljegdiconaaQKBxd9
namespace Go.Proofs.Ytnpiljegdiconaa
open Go.ChangeShapes Go.WideShapes Go.ChangeAt Go.RowKit
open Go.ChangeMaps (open_string shut_string)
set_option linter.unusedVariables false
set_option maxRecDepth 100000
theorem join_regionA {P : Program} {reg : Code} {Qp : Exit → Act → World → Prop} {l : List Value} {ds : List Deferred} {W : World} (R : List Value → List Value → World → Prop) (h1 : ∀ l' W', R l l' W' → Qp .normal ⟨l'.toArray, ds⟩ W') (h2 : ∀ K2 : Act → World → Prop, Hid (∀ l' W', R l l' W' → K2 ⟨l'.toArray, ds⟩ W') → Code.wp P reg (Exit.then K2 (fun _ _ _ => False)) ⟨l.toArray, ds⟩ W) : Code.wp P reg Qp ⟨l.toArray, ds⟩ W :=
 Code.wp_mono (fun e a w h => by cases e <;> first | exact h | exact (h : False).elim) (h2 (fun a w => Qp .normal a w) h1)
set_option maxHeartbeats 16000000 in
theorem acceptS (x : BxD) (s : Int) (aO : Option Addr) (cO : Nat) (L : List Ou) (w : World) (hV : BxV w x) (hn1 : x.aN = none → x.cN = 0) (hn2 : x.aG = none → x.cG = 0) (hn3 : x.aL = none → x.cL = 0) (hn4 : x.aS = none → x.cS = 0) (hnL : ∀ i, i < x.two.length → (x.two.getD i MiD.nil).ad = none → (x.two.getD i MiD.nil).cap = 0) (hL : FView ouEnc w aO L) (hl : L.length ≤ 1048576) :
  Calls Try.prog 68 #[.agg #[.int .i64 x.id, .int .i64 x.po, .int .i64 x.rg.ep, .int .i64 x.rg.ow, .int .i64 x.rg.pa, .slice x.aT x.two.length x.cT, .slice x.aN x.net.length x.cN, .slice x.aG x.ga.length x.cG, .slice x.aL x.ln.length x.cL, .slice x.aS x.sd.length x.cS], .int .i64 s, .slice aO L.length cO] w fun e w' => ∃ x3 : BxD, e = .returned (.agg #[.int .i64 x3.id, .int .i64 x3.po, .int .i64 x3.rg.ep, .int .i64 x3.rg.ow, .int .i64 x3.rg.pa, .slice x3.aT x3.two.length x3.cT, .slice x3.aN x3.net.length x3.cN, .slice x3.aG x3.ga.length x3.cG, .slice x3.aL x3.ln.length x3.cL, .slice x3.aS x3.sd.length x3.cS]) ∧ x3.p = accX x.p s L ∧ BxO w.heap.size w' x3 ∧ Below w.heap.size w w' := by
 obtain ⟨i4, hj4, hz40, hz41, hz42⟩ := info_parts ouInfo
 obtain ⟨y, hy⟩ := mk_ ((w.alloc (Obj.cells #[.int .i64 x.id, .int .i64 x.po, .int .i64 x.rg.ep, .int .i64 x.rg.ow, .int .i64 x.rg.pa, .slice x.aT x.two.length x.cT, .slice x.aN x.net.length x.cN, .slice x.aG x.ga.length x.cG, .slice x.aL x.ln.length x.cL, .slice x.aS x.sd.length x.cS] 79)).alloc (Obj.cells #[.int .i64 0, .int .i64 0, .int .i64 0, .int .i64 0, .int .i64 0, .slice none 0 0, .slice none 0 0, .slice none 0 0, .slice none 0 0, .slice none 0 0] 79))
 have B0 : Below w.heap.size w y := by rw [hy]; exact ((Below.refl _ _).alloc (Nat.le_refl _) _).alloc (by simp) _
 have A : BxAt y w.heap.size x := by rw [hy]; constructor <;> simp [go_sem]
 have Z : BxB y (w.heap.size + 1) BxD.zero := by rw [hy]; refine ⟨?_, fun i => ?_⟩; constructor <;> simp [go_sem, BxD.zero]; simp [go_sem]
 have Z0 := Z
 have sy := Z.lt
 have V := hV.later B0
 have hL1 := hL.below B0 (hL.lt ouEnc_len (by omega))
 go_enter Try.func68, Try.ntmps68
 have cc := A
 obtain ⟨a0, a1, a2, a3, a4, a5, a6, a7, a8, a9⟩ := cc
 go_wp2_with fail
 go_at_call 50
 rw [← hy]
 clear hy a0 a1 a2 a3 a4 a5 a6 a7 a8 a9
 refine (copyX x y V hn1 hn2 hn3 hn4 hnL).mono ?_
 rintro e u1 ⟨x2, rfl, p2, lt2, O2, k1⟩
 replace p2 : Hid _ := p2
 have A := A.below k1 A.lt
 have Z := Z.below k1 Z.lt
 have V := V.later k1
 have s1 := k1.size
 have K1 : Below y.heap.size y u1 := k1
 clear lt2
 obtain ⟨u2, hu2⟩ := mk_ (u1.alloc (Obj.cells #[.int .i64 x2.id, .int .i64 x2.po, .int .i64 x2.rg.ep, .int .i64 x2.rg.ow, .int .i64 x2.rg.pa, .slice x2.aT x2.two.length x2.cT, .slice x2.aN x2.net.length x2.cN, .slice x2.aG x2.ga.length x2.cG, .slice x2.aL x2.ln.length x2.cL, .slice x2.aS x2.sd.length x2.cS] 79))
 have kk : Below u1.heap.size u1 u2 := by rw [hu2]; exact below_new _
 have Q : BxB u2 u1.heap.size x2 := by rw [hu2]; refine ⟨BxAt.new u1 _ x2, fun i => ?_⟩; simp [go_sem]
 have A := A.below kk A.lt
 have Z := Z.below kk Z.lt
 have V := V.later kk
 have O2' := O2.ne (q := u1.heap.size) (Nat.le_refl _)
 have O2 := O2.later kk
 have K2 := K1.trans (kk.mono (by omega))
 have s2 := Q.lt
 clear kk k1 K1
 go_upto_region 2 with fail
 rw [← hu2]
 clear hu2
 obtain ⟨q7, hq7⟩ := mk_ u1.heap.size
 rw [← hq7] at Q O2' s2 ⊢
 replace hq7 := Nat.le_of_eq hq7.symm
 have cc := A
 obtain ⟨a0, a1, a2, a3, a4, a5, a6, a7, a8, a9⟩ := cc
 go_wp2_with fail
 go_at_call 71
 clear a0 a1 a2 a3 a4 a5 a6 a7 a8 a9
 refine (mindsXS x s u2 V).mono ?_
 rintro e u3 ⟨rfl, kk⟩
 have A := A.below kk A.lt
 have Z := Z.below kk Z.lt
 have Q := Q.below kk Q.lt
 have O2 := O2.later kk
 have K3 := K2.trans (kk.mono (by have := K2.size; omega))
 have s3 := kk.size
 clear kk V K2
 cases hm : mindsX x.p s
 ·
  have hX : Hid (x2.p = accX x.p s L) := by unfold Hid accX; rw [hm, p2.out]; rfl
  replace hm : Hid _ := hm
  have B3 := B0.trans (K3.mono B0.size)
  obtain ⟨W9, hW9⟩ := mk_ ((((((((((u3.setCell ⟨w.heap.size + 1, 0, none⟩ (.int .i64 x2.id)).setCell ⟨w.heap.size + 1, 1, none⟩ (.int .i64 x2.po)).setCell ⟨w.heap.size + 1, 2, none⟩ (.int .i64 x2.rg.ep)).setCell ⟨w.heap.size + 1, 3, none⟩ (.int .i64 x2.rg.ow)).setCell ⟨w.heap.size + 1, 4, none⟩ (.int .i64 x2.rg.pa)).setCell ⟨w.heap.size + 1, 5, none⟩ (.slice x2.aT x2.two.length x2.cT)).setCell ⟨w.heap.size + 1, 6, none⟩ (.slice x2.aN x2.net.length x2.cN)).setCell ⟨w.heap.size + 1, 7, none⟩ (.slice x2.aG x2.ga.length x2.cG)).setCell ⟨w.heap.size + 1, 8, none⟩ (.slice x2.aL x2.ln.length x2.cL)).setCell ⟨w.heap.size + 1, 9, none⟩ (.slice x2.aS x2.sd.length x2.cS))
  have ZZ : BxB W9 (w.heap.size + 1) x2 := by rw [hW9]; exact Z.put x2
  have kp : ∀ k, k ≠ w.heap.size + 1 → W9.heap[k]? = u3.heap[k]? := fun k hk => by rw [hW9, Below.heap_setCell _ _ _ _ hk, Below.heap_setCell _ _ _ _ hk, Below.heap_setCell _ _ _ _ hk, Below.heap_setCell _ _ _ _ hk, Below.heap_setCell _ _ _ _ hk, Below.heap_setCell _ _ _ _ hk, Below.heap_setCell _ _ _ _ hk, Below.heap_setCell _ _ _ _ hk, Below.heap_setCell _ _ _ _ hk, Below.heap_setCell _ _ _ _ hk]
  have B9 : Below w.heap.size w W9 := by rw [hW9]; exact ((((((((((B3.setCell (p := ⟨w.heap.size + 1, 0, none⟩) (by show _ ≤ w.heap.size + 1; omega) _).setCell (p := ⟨w.heap.size + 1, 1, none⟩) (by show _ ≤ w.heap.size + 1; omega) _).setCell (p := ⟨w.heap.size + 1, 2, none⟩) (by show _ ≤ w.heap.size + 1; omega) _).setCell (p := ⟨w.heap.size + 1, 3, none⟩) (by show _ ≤ w.heap.size + 1; omega) _).setCell (p := ⟨w.heap.size + 1, 4, none⟩) (by show _ ≤ w.heap.size + 1; omega) _).setCell (p := ⟨w.heap.size + 1, 5, none⟩) (by show _ ≤ w.heap.size + 1; omega) _).setCell (p := ⟨w.heap.size + 1, 6, none⟩) (by show _ ≤ w.heap.size + 1; omega) _).setCell (p := ⟨w.heap.size + 1, 7, none⟩) (by show _ ≤ w.heap.size + 1; omega) _).setCell (p := ⟨w.heap.size + 1, 8, none⟩) (by show _ ≤ w.heap.size + 1; omega) _).setCell (p := ⟨w.heap.size + 1, 9, none⟩) (by show _ ≤ w.heap.size + 1; omega) _)
  have O9 : BxO w.heap.size W9 x2 := (O2.keep (fun g h1 h2 => kp g (by omega))).base (by omega)
  obtain ⟨⟨t0, t1, t2, t3, t4, t5, t6, t7, t8, t9⟩, tf⟩ := ZZ
  clear tf
  have cc := Z
  obtain ⟨⟨z0, z1, z2, z3, z4, z5, z6, z7, z8, z9⟩, zf⟩ := cc
  obtain ⟨e0, e1, e2, e3, e4, e5, e6, e7, e8, e9⟩ := ten zf
  clear zf
  have cc := Q
  obtain ⟨⟨q0, q1, q2, q3, q4, q5, q6, q7, q8, q9⟩, qf⟩ := cc
  clear qf
  go_wp2
  refine bodyPost_ret (v := bvx x2) (by simp [bvx, results, Try.results68, go_sem, *]) rfl ⟨x2, rfl, hX.out, by rw [← hW9]; exact O9, by rw [← hW9]; exact B9⟩
 ·
  replace hm : Hid _ := hm
  have hl2 : x2.ga.length = x.ga.length := by have h := congrArg Bx.ga p2.out; unfold BxD.p at h; simp only at h; rw [h]
  have hs2 : x2.sd.length = x.sd.length := by have h := congrArg Bx.sd p2.out; unfold BxD.p at h; simp only at h; rw [h]
  have bg2 : x2.ga.length ≤ 1048576 := by rw [hl2]; exact hV.bg
  have bs2 : x2.sd.length ≤ 1048576 := by rw [hs2]; exact hV.bs
  clear hl2 hs2
  go_wp2
  go_loopw [8] (fun i wr => ∃ (k : Nat) (z : BxD), k ≤ L.length ∧ i = .int .i64 k ∧ Hid (z.p = accK x2.p (L.take k)) ∧ BxB wr q7 z ∧ BxO y.heap.size wr z ∧ BxNe q7 z ∧ Below y.heap.size y wr ∧ q7 < wr.heap.size) (fun i _ => L.length - (intOf i).toNat)
  case atStart => exact ⟨0, x2, Nat.zero_le _, rfl, by unfold Hid; rw [List.take_zero, accK_nil], Q, O2, O2', K3, by omega⟩
  case round =>
   obtain ⟨k, z, hk_, rfl, hz, Q, O, NE, KW, sW⟩ := hrel
   clear O2 O2' K3
   have hza : z.ga.length = x2.ga.length := by have h : z.p.ga.length = (accK x2.p (L.take k)).ga.length := by { rw [hz.out] }; rw [accK_len] at h; exact h
   have bgz : z.ga.length ≤ 1048576 := by rw [hza]; exact bg2
   have hzs : z.sd.length = x2.sd.length + k := by have h : z.p.sd.length = (accK x2.p (L.take k)).sd.length := by { rw [hz.out] }; have h2 : (accK x2.p (L.take k)).sd.length = x2.sd.length + k := by { show (x2.sd ++ L.take k).length = _; rw [List.length_append, List.length_take, Nat.min_eq_left hk_] }; exact h.trans h2
   have bsz : z.sd.length ≤ 2097152 := by omega
   clear hza hzs
   by_cases hlt : k < L.length
   ·
    obtain ⟨b, off, rfl, _⟩ := hL1 (by omega)
    have hbl : b < y.heap.size := hL1.lt ouEnc_len (by omega) _ rfl (by omega)
    obtain ⟨⟨hk, hpt, hr, hc, hb, hp, hh_, hon⟩, hh⟩ : ∃ h, L.getD k Ou.nil = h := ⟨_, rfl⟩
    have E : OuAtO wr b (off + k * 8) ⟨hk, hpt, hr, hc, hb, hp, hh_, hon⟩ := by rw [← hh]; exact ouAtO_of ((hL1.below KW (hL1.lt ouEnc_len (by omega))).at_ ouEnc_len Ou.nil hlt)
    replace hh : Hid _ := hh
    clear hL1
    have hwr : IntKind.i64.wrap ((z.ga.length : Int) - 1) = (z.ga.length : Int) - 1 := by rw [IntKind.wrap_i64]; omega
    by_cases e2 : hk = 2
    ·
     have d2 : (hk == 2) = true := by simpa using e2
     by_cases e3 : 0 ≤ hpt ∧ hpt < (z.ga.length : Int)
     ·
      have hin : decide (0 ≤ hpt ∧ hpt ≤ (z.ga.length : Int) - 1) = true := decide_eq_true (by omega)
      go_upto_region 7 with fail
      refine wp_region_held (S := fun Y => Below wr.heap.size wr Y) (by kernel_rfl) ?_
      change wpAnyH _ _ _ _ _ _ _ _ (World.drew _)
      have hb0 : Below wr.heap.size wr wr.drew := (Below.refl _ _).drew
      obtain ⟨u0, hu0⟩ := mk_ wr.drew
      rw [← hu0] at hb0 ⊢
      clear hu0
      refine tw 0 22 (.slice (some ⟨b, off, none⟩) L.length cO) ?_
      refine tw 1 23 (.int .i64 k) ?_
      refine tw 2 24 (.pointer (some ⟨b, off + k * 8, none⟩)) ?_ (hy := by intro Y hSw; go_simp; try omega)
      refine tw 3 25 (.pointer (some ⟨b, off + k * 8, none⟩)) ?_
      refine tw 4 26 (.int .i64 hk) ?_ (hy := by intro Y hSw; obtain ⟨X0, X1, X2, X3, X4, X5, X6, X7⟩ := (E.belowA hSw (by omega)); go_simp)
      refine tw 5 27 (.bool true) ?_
      refine tw 6 28 (.bool true) ?_
      refine tw 7 29 (.slice (some ⟨b, off, none⟩) L.length cO) ?_
      refine tw 8 30 (.int .i64 k) ?_
      refine tw 9 31 (.pointer (some ⟨b, off + k * 8, none⟩)) ?_ (hy := by intro Y hSw; go_simp; try omega)
      refine tw 10 32 (.pointer (some ⟨b, off + k * 8 + 1, none⟩)) ?_
      refine tw 11 33 (.int .i64 hpt) ?_ (hy := by intro Y hSw; obtain ⟨X0, X1, X2, X3, X4, X5, X6, X7⟩ := (E.belowA hSw (by omega)); go_simp)
      refine tw 12 34 (.pointer (some ⟨q7, 7, none⟩)) ?_
      refine tw 13 35 (.slice z.aG z.ga.length z.cG) ?_ (hy := by intro Y hSw; obtain ⟨⟨X0, X1, X2, X3, X4, X5, X6, X7, X8, X9⟩, _⟩ := (Q.below hSw Q.lt); go_simp)
      refine tw 14 36 (.int .i64 (z.ga.length : Int)) ?_
      refine tw 15 37 (.int .i64 ((z.ga.length : Int) - 1)) ?_ (hy := by intro Y hSw; go_simp)
      refine w1 16 fun Kz hKz => ?_
      go_simp
      go_at_call 26
      refine (inB hpt 0 ((z.ga.length : Int) - 1) u0).mono ?_
      rintro e u9 ⟨rfl, hw_⟩
      rw [hw_]
      clear hw_
      rw [hin]
      refine hKz _ _ ⟨hb0, ?_⟩
      clear hKz Kz
      refine tw 17 39 (.bool true) ?_
      refine wpAnyH_done (by kernel_rfl) ?_ _
      have Q := Q.below hb0 Q.lt
      have O := O.later hb0
      have KW := KW.trans (hb0.mono KW.size)
      have E := E.belowA hb0 (by omega)
      have sW := Nat.lt_of_lt_of_le sW hb0.size
      clear hb0
      clear hin d2
      obtain ⟨j, rfl⟩ : ∃ j : Nat, hpt = (j : Int) := ⟨hpt.toNat, by omega⟩
      have hj : j < z.ga.length := by omega
      have hg : gateX z.p.ga (⟨hk, (j : Int), hr, hc, hb, hp, hh_, hon⟩ : Ou) = z.p.ga.set j hon := if_pos ⟨e2, by show (0 : Int) ≤ (j : Int); omega, by show (j : Int) < (z.ga.length : Int); omega⟩
      replace e2 : Hid _ := e2
      replace e3 : Hid _ := e3
      obtain ⟨gg, hgg⟩ : ∃ g, z.aG = some ⟨g, 0, none⟩ := by
       rcases O.g.2 with ⟨q, h0⟩ | ⟨g, c, cur, q, _⟩
       ·
        simp only [Value.slice.injEq] at q; omega
       ·
        simp only [Value.slice.injEq] at q; exact ⟨g, q.1⟩
      have hgq : gg ≠ q7 := NE.g gg (by rw [hgg]; rfl)
      have hgy : y.heap.size ≤ gg := (O.g.lt gg (by rw [hgg]; rfl)).1
      go_upto_region 8 with fail
      refine wp_region_held (S := fun Y => BxAt Y q7 z ∧ OuAtO Y b (off + k * 8) ⟨hk, (j : Int), hr, hc, hb, hp, hh_, hon⟩) (by kernel_rfl) ?_
      change wpAnyH _ _ _ _ _ _ _ _ (World.drew _)
      have kd : Below u0.heap.size u0 u0.drew := (Below.refl _ _).drew
      obtain ⟨u4, hu4⟩ := mk_ u0.drew
      rw [← hu4] at kd ⊢
      clear hu4
      have Q := Q.below kd Q.lt
      have O := O.later kd
      have KW := KW.trans (kd.mono KW.size)
      have E := E.belowA kd (by omega)
      have sW := Nat.lt_of_lt_of_le sW kd.size
      have hs0 : BxAt u4 q7 z ∧ OuAtO u4 b (off + k * 8) ⟨hk, (j : Int), hr, hc, hb, hp, hh_, hon⟩ := ⟨Q.at_, E⟩
      clear kd
      refine tw 0 40 (.pointer (some ⟨q7, 7, none⟩)) ?_
      refine tw 1 41 (.slice (some ⟨gg, 0, none⟩) z.ga.length z.cG) ?_ (hy := by intro Y hSw; obtain ⟨⟨X0, X1, X2, X3, X4, X5, X6, X7, X8, X9⟩, _⟩ := hSw; rw [hgg] at X7; go_simp)
      refine tw 2 42 (.slice (some ⟨b, off, none⟩) L.length cO) ?_
      refine tw 3 43 (.int .i64 k) ?_
      refine tw 4 44 (.pointer (some ⟨b, off + k * 8, none⟩)) ?_ (hy := by intro Y hSw; go_simp; try omega)
      refine tw 5 45 (.pointer (some ⟨b, off + k * 8 + 1, none⟩)) ?_
      refine tw 6 46 (.int .i64 (j : Int)) ?_ (hy := by intro Y hSw; obtain ⟨_, X0, X1, X2, X3, X4, X5, X6, X7⟩ := hSw; go_simp)
      refine tw 7 47 (.slice (some ⟨b, off, none⟩) L.length cO) ?_
      refine tw 8 48 (.int .i64 k) ?_
      refine tw 9 49 (.pointer (some ⟨b, off + k * 8, none⟩)) ?_ (hy := by intro Y hSw; go_simp; try omega)
      refine tw 10 50 (.pointer (some ⟨b, off + k * 8 + 7, none⟩)) ?_
      refine tw 11 51 (.bool hon) ?_ (hy := by intro Y hSw; obtain ⟨_, X0, X1, X2, X3, X4, X5, X6, X7⟩ := hSw; go_simp)
      refine tw 12 52 (.pointer (some ⟨gg, j, none⟩)) ?_ (hy := by intro Y hSw; go_simp; try omega)
      refine w1 13 fun Kz hKz => ?_
      have og := O.g
      rw [hgg] at og
      have cj : u4.cell? ⟨gg, j, none⟩ = some (.bool (z.ga.getD j false)) := by have h9 := og.cell boEnc_len false hj 0 _ rfl; rw [Nat.mul_one] at h9; exact h9
      have fj := og.frozen j
      go_simp
      clear cj fj og
      obtain ⟨u6, hu6⟩ := mk_ (u4.setCell ⟨gg, j, none⟩ (.bool hon))
      have O6 : BxO y.heap.size u6 { z with ga := z.ga.set j hon } := by rw [hu6]; exact O.gate hgg hj hon
      have kp : ∀ g, g ≠ gg → u6.heap[g]? = u4.heap[g]? := fun g hg => by rw [hu6]; exact Below.heap_setCell _ _ _ _ hg
      have Q6 : BxB u6 q7 { z with ga := z.ga.set j hon } := by have h9 := Q.keep (kp _ (fun e => hgq e.symm)); exact ⟨⟨h9.at_.c0, h9.at_.c1, h9.at_.c2, h9.at_.c3, h9.at_.c4, h9.at_.c5, h9.at_.c6, by show _ = some (Value.slice z.aG (z.ga.set j hon).length z.cG); rw [List.length_set]; exact h9.at_.c7, h9.at_.c8, h9.at_.c9⟩, h9.fr⟩
      have NE6 : BxNe q7 { z with ga := z.ga.set j hon } := ⟨NE.t, NE.n, fun b_ e => NE.g b_ (by have e : (Value.slice z.aG (z.ga.set j hon).length z.cG).ownBlock = some b_ := e; rw [hgg] at e ⊢; exact e), NE.i, NE.s, NE.l⟩
      have K6 : Below y.heap.size y u6 := by rw [hu6]; exact KW.setCell (p := ⟨gg, j, none⟩) hgy _
      have E6 := E.keepA (kp _ (by omega))
      have s6 : u6.heap.size = u4.heap.size := by rw [hu6]; simp
      have hs6 : BxAt u6 q7 z ∧ OuAtO u6 b (off + k * 8) ⟨hk, (j : Int), hr, hc, hb, hp, hh_, hon⟩ := ⟨Q.at_.keep (kp _ (fun e => hgq e.symm)), E6⟩
      rw [← hu6]
      clear hu6 kp
      refine hKz _ _ ⟨hs6, ?_⟩
      clear hKz Kz
      refine wpAnyH_done (by kernel_rfl) ?_ _
      replace s6 := Nat.le_of_eq s6.symm
      have sW := Nat.lt_of_lt_of_le sW s6
      obtain ⟨zg, hzg⟩ : ∃ zg : BxD, zg = { z with ga := z.ga.set j hon } := ⟨_, rfl⟩
      rw [← hzg] at Q6 O6 NE6
      have hz2 : Hid (BxD.p { zg with sd := zg.sd ++ [(⟨hk, (j : Int), hr, hc, hb, hp, hh_, hon⟩ : Ou)] } = accK x2.p (L.take (k + 1))) := by
       unfold Hid
       rw [take_snoc hlt, hh.out, accK_snoc, ← hz.out, hg, hzg]
       rfl
      have bsz : zg.sd.length ≤ 2097152 := by rw [hzg]; exact bsz
      clear hg hzg Q O NE KW E hs0 hs6
      have Q := Q6
      have O := O6
      have NE := NE6
      have KW := K6
      have E := E6
      clear Q6 O6 NE6 K6 E6
      go_upto_region 9 with fail
      refine join_regionA (fun l l' W' => ∃ (aN : Option Addr) (cN : Nat) (us : List Value), us.length = 9 ∧ l' = l.take 53 ++ us ++ l.drop 62 ∧ BxB W' q7 { zg with sd := zg.sd ++ [(⟨hk, (j : Int), hr, hc, hb, hp, hh_, hon⟩ : Ou)], aS := aN, cS := cN } ∧ BxO y.heap.size W' { zg with sd := zg.sd ++ [(⟨hk, (j : Int), hr, hc, hb, hp, hh_, hon⟩ : Ou)], aS := aN, cS := cN } ∧ BxNe q7 { zg with sd := zg.sd ++ [(⟨hk, (j : Int), hr, hc, hb, hp, hh_, hon⟩ : Ou)], aS := aN, cS := cN } ∧ Below y.heap.size y W' ∧ q7 < W'.heap.size) ?_ ?_
      rotate_left
      ·
       intro K2 hT3
       refine wp_region_held (S := fun Y => OuAtO Y b (off + k * 8) ⟨hk, (j : Int), hr, hc, hb, hp, hh_, hon⟩) (by kernel_rfl) ?_
       change wpAnyH _ _ _ _ _ _ _ _ (World.drew _)
       have kd : Below u6.heap.size u6 u6.drew := (Below.refl _ _).drew
       obtain ⟨u0, hu0⟩ := mk_ u6.drew
       rw [← hu0] at kd ⊢
       clear hu0
       have Q := Q.below kd Q.lt
       have O := O.later kd
       have KW := KW.trans (kd.mono KW.size)
       have E := E.belowA kd (by omega)
       have sd0 := kd.size
       clear kd
       refine tw 0 53 (.pointer (some ⟨q7, 9, none⟩)) ?_
       refine tw 2 55 (.slice (some ⟨b, off, none⟩) L.length cO) ?_
       refine tw 3 56 (.int .i64 k) ?_
       refine tw 4 57 (.pointer (some ⟨b, off + k * 8, none⟩)) ?_ (hy := by intro Y hSw; go_simp; try omega)
       refine tw 5 58 (.agg #[.int .i64 hk, .int .i64 (j : Int), .int .i64 hr, .int .i64 hc, .int .i64 hb, .int .i64 hp, .int .i64 hh_, .bool hon]) ?_ (hy := by intro Y hSw; obtain ⟨X0, X1, X2, X3, X4, X5, X6, X7⟩ := hSw; go_simp)
       refine wpAnyH_all (rs := [1, 6]) (by kernel_rfl) (by simp) ?_
       intro i hi; rcases (by simpa using hi : i = 1 ∨ i = 6) with rfl | rfl
       ·
        refine wpOp_step rfl (fun Kz hKz => ?_)
        rw [if_pos (by kernel_rfl)]
        have cc := Q
        obtain ⟨⟨q0, q1, q2, q3, q4, q5, q6, q7, q8, q9⟩, qf⟩ := cc
        go_simp
        clear q0 q1 q2 q3 q4 q5 q6 q7 q8 q9 qf
        refine hKz _ _ ⟨E, ?_⟩
        clear hKz Kz hi
        refine w1 6 fun Kz hKz => ?_
        go_simp
        obtain ⟨u1_, hu1⟩ := mk_ (u0.alloc (Obj.cells #[.int .i64 hk, .int .i64 (j : Int), .int .i64 hr, .int .i64 hc, .int .i64 hb, .int .i64 hp, .int .i64 hh_, .bool hon] 135))
        have V1 : FView ouEnc u1_ (some ⟨u0.heap.size, 0, none⟩) [(⟨hk, (j : Int), hr, hc, hb, hp, hh_, hon⟩ : Ou)] := by rw [hu1]; exact FView.oneO u0 _ ⟨hk, (j : Int), hr, hc, hb, hp, hh_, hon⟩
        have k1 : Below u0.heap.size u0 u1_ := by rw [hu1]; exact below_new _
        have s1_ : u0.heap.size < u1_.heap.size := by rw [hu1]; simp
        have Q := Q.below k1 Q.lt
        have O := O.later k1
        have KW := KW.trans (k1.mono KW.size)
        have E := E.belowA k1 (by omega)
        rw [← hu1]
        clear hu1 k1
        refine hKz _ _ ⟨E, ?_⟩
        clear hKz Kz
        refine w1 7 fun Kz hKz => ?_
        refine fapp ouEnc_len ouEnc_ones 60 _ _ 77 rfl rfl y.heap.size 135 i4 (.agg #[.int .i64 0, .int .i64 0, .int .i64 0, .int .i64 0, .int .i64 0, .int .i64 0, .int .i64 0, .bool false]) 64 Try.underlying77 hj4 hz40 hz41 hz42 rfl (by decide) (by decide) (.slice zg.aS zg.sd.length zg.cS) zg.sd rfl O.s (some ⟨u0.heap.size, 0, none⟩) 1 [(⟨hk, (j : Int), hr, hc, hb, hp, hh_, hon⟩ : Ou)] rfl (fun e => by cases e) V1 (by simp; omega) (by omega) ?_
        intro vN u2_ oN gN hob
        replace oN : FOwn ouEnc 8 135 y.heap.size u2_ vN (zg.sd ++ [(⟨hk, (j : Int), hr, hc, hb, hp, hh_, hon⟩ : Ou)]) := oN
        have hk2 : ∀ g, g < u1_.heap.size → (Value.slice zg.aS zg.sd.length zg.cS).ownBlock ≠ some g → u2_.heap[g]? = u1_.heap[g]? := fun g h1 h2 => gN.block g h1 (fun e => h2 e.symm)
        have Q := Q.keep (hk2 _ Q.lt (fun e => NE.s _ e rfl))
        have KW := KW.grown gN (by omega) (fun g e => (O.s.lt g e).1)
        have E := E.keepA (hk2 _ (by omega) (fun e => by have := (O.s.lt _ e).1; omega))
        have s2_ := gN.size
        obtain ⟨N, hN⟩ := mk_ (zg.sd ++ [(⟨hk, (j : Int), hr, hc, hb, hp, hh_, hon⟩ : Ou)])
        rw [← hN] at oN
        replace hN : Hid _ := hN
        obtain ⟨aN, cN, rfl⟩ := oN.open_
        have O := O.said N aN cN oN hk2
        have NE' : ∀ b_, (Value.slice aN N.length cN).ownBlock = some b_ → b_ ≠ q7 := fun b_ e => hob.elim (fun h => by rw [h] at e; exact NE.s b_ e) (fun h => by rw [h] at e; have e2 := Option.some.inj e; omega)
        clear gN hk2 hob V1
        simp only [List.set_cons_zero, List.set_cons_succ]
        refine hKz _ _ ⟨E, ?_⟩
        clear hKz Kz
        refine tw 8 61 (.pointer (some ⟨q7, 9, none⟩)) ?_
        refine w1 9 fun Kz hKz => ?_
        have cc := Q
        obtain ⟨⟨q0, q1, q2, q3, q4, q5, q6, q7, q8, q9⟩, qf⟩ := cc
        have f9 := qf 9
        go_simp
        clear q0 q1 q2 q3 q4 q5 q6 q7 q8 q9 qf f9
        obtain ⟨u3_, hu3⟩ := mk_ (u2_.setCell ⟨q7, 9, none⟩ (.slice aN N.length cN))
        have Q3 : BxB u3_ q7 { zg with sd := N, aS := aN, cS := cN } := by rw [hu3]; exact Q.sS N aN N.length cN rfl
        have NE3 : BxNe q7 { zg with sd := N, aS := aN, cS := cN } := ⟨NE.t, NE.n, NE.g, NE.i, NE', NE.l⟩
        have kp : ∀ g, g ≠ q7 → u3_.heap[g]? = u2_.heap[g]? := fun g hg => by rw [hu3]; exact Below.heap_setCell _ _ _ _ hg
        have O3 := O.keepQ NE3 kp
        have K3' : Below y.heap.size y u3_ := by rw [hu3]; exact KW.setCell (p := ⟨q7, 9, none⟩) (by show _ ≤ q7; omega) _
        have s3_ : u3_.heap.size = u2_.heap.size := by rw [hu3]; simp
        replace s3_ := Nat.le_of_eq s3_.symm
        have E := E.keepA (kp _ (by omega))
        rw [← hu3]
        clear hu3 kp
        refine hKz _ _ ⟨E, ?_⟩
        clear hKz Kz
        refine wpAnyH_done (by kernel_rfl) ?_ _
        have hN9 := hN.out
        subst hN9
        exact hT3.out _ _ ⟨aN, cN, [_, _, _, _, _, _, _, _, _], rfl, rfl, Q3, O3, NE3, K3', by omega⟩
       ·
        refine wpOp_step rfl (fun Kz hKz => ?_)
        rw [if_pos (by kernel_rfl)]
        go_simp
        obtain ⟨u1_, hu1⟩ := mk_ (u0.alloc (Obj.cells #[.int .i64 hk, .int .i64 (j : Int), .int .i64 hr, .int .i64 hc, .int .i64 hb, .int .i64 hp, .int .i64 hh_, .bool hon] 135))
        have V1 : FView ouEnc u1_ (some ⟨u0.heap.size, 0, none⟩) [(⟨hk, (j : Int), hr, hc, hb, hp, hh_, hon⟩ : Ou)] := by rw [hu1]; exact FView.oneO u0 _ ⟨hk, (j : Int), hr, hc, hb, hp, hh_, hon⟩
        have k1 : Below u0.heap.size u0 u1_ := by rw [hu1]; exact below_new _
        have s1_ : u0.heap.size < u1_.heap.size := by rw [hu1]; simp
        have Q := Q.below k1 Q.lt
        have O := O.later k1
        have KW := KW.trans (k1.mono KW.size)
        have E := E.belowA k1 (by omega)
        rw [← hu1]
        clear hu1 k1
        refine hKz _ _ ⟨E, ?_⟩
        clear hKz Kz hi
        refine w1 1 fun Kz hKz => ?_
        have cc := Q
        obtain ⟨⟨q0, q1, q2, q3, q4, q5, q6, q7, q8, q9⟩, qf⟩ := cc
        go_simp
        clear q0 q1 q2 q3 q4 q5 q6 q7 q8 q9 qf
        refine hKz _ _ ⟨E, ?_⟩
        clear hKz Kz
        refine w1 7 fun Kz hKz => ?_
        refine fapp ouEnc_len ouEnc_ones 60 _ _ 77 rfl rfl y.heap.size 135 i4 (.agg #[.int .i64 0, .int .i64 0, .int .i64 0, .int .i64 0, .int .i64 0, .int .i64 0, .int .i64 0, .bool false]) 64 Try.underlying77 hj4 hz40 hz41 hz42 rfl (by decide) (by decide) (.slice zg.aS zg.sd.length zg.cS) zg.sd rfl O.s (some ⟨u0.heap.size, 0, none⟩) 1 [(⟨hk, (j : Int), hr, hc, hb, hp, hh_, hon⟩ : Ou)] rfl (fun e => by cases e) V1 (by simp; omega) (by omega) ?_
        intro vN u2_ oN gN hob
        replace oN : FOwn ouEnc 8 135 y.heap.size u2_ vN (zg.sd ++ [(⟨hk, (j : Int), hr, hc, hb, hp, hh_, hon⟩ : Ou)]) := oN
        have hk2 : ∀ g, g < u1_.heap.size → (Value.slice zg.aS zg.sd.length zg.cS).ownBlock ≠ some g → u2_.heap[g]? = u1_.heap[g]? := fun g h1 h2 => gN.block g h1 (fun e => h2 e.symm)
        have Q := Q.keep (hk2 _ Q.lt (fun e => NE.s _ e rfl))
        have KW := KW.grown gN (by omega) (fun g e => (O.s.lt g e).1)
        have E := E.keepA (hk2 _ (by omega) (fun e => by have := (O.s.lt _ e).1; omega))
        have s2_ := gN.size
        obtain ⟨N, hN⟩ := mk_ (zg.sd ++ [(⟨hk, (j : Int), hr, hc, hb, hp, hh_, hon⟩ : Ou)])
        rw [← hN] at oN
        replace hN : Hid _ := hN
        obtain ⟨aN, cN, rfl⟩ := oN.open_
        have O := O.said N aN cN oN hk2
        have NE' : ∀ b_, (Value.slice aN N.length cN).ownBlock = some b_ → b_ ≠ q7 := fun b_ e => hob.elim (fun h => by rw [h] at e; exact NE.s b_ e) (fun h => by rw [h] at e; have e2 := Option.some.inj e; omega)
        clear gN hk2 hob V1
        simp only [List.set_cons_zero, List.set_cons_succ]
        refine hKz _ _ ⟨E, ?_⟩
        clear hKz Kz
        refine tw 8 61 (.pointer (some ⟨q7, 9, none⟩)) ?_
        refine w1 9 fun Kz hKz => ?_
        have cc := Q
        obtain ⟨⟨q0, q1, q2, q3, q4, q5, q6, q7, q8, q9⟩, qf⟩ := cc
        have f9 := qf 9
        go_simp
        clear q0 q1 q2 q3 q4 q5 q6 q7 q8 q9 qf f9
        obtain ⟨u3_, hu3⟩ := mk_ (u2_.setCell ⟨q7, 9, none⟩ (.slice aN N.length cN))
        have Q3 : BxB u3_ q7 { zg with sd := N, aS := aN, cS := cN } := by rw [hu3]; exact Q.sS N aN N.length cN rfl
        have NE3 : BxNe q7 { zg with sd := N, aS := aN, cS := cN } := ⟨NE.t, NE.n, NE.g, NE.i, NE', NE.l⟩
        have kp : ∀ g, g ≠ q7 → u3_.heap[g]? = u2_.heap[g]? := fun g hg => by rw [hu3]; exact Below.heap_setCell _ _ _ _ hg
        have O3 := O.keepQ NE3 kp
        have K3' : Below y.heap.size y u3_ := by rw [hu3]; exact KW.setCell (p := ⟨q7, 9, none⟩) (by show _ ≤ q7; omega) _
        have s3_ : u3_.heap.size = u2_.heap.size := by rw [hu3]; simp
        replace s3_ := Nat.le_of_eq s3_.symm
        have E := E.keepA (kp _ (by omega))
        rw [← hu3]
        clear hu3 kp
        refine hKz _ _ ⟨E, ?_⟩
        clear hKz Kz
        refine wpAnyH_done (by kernel_rfl) ?_ _
        have hN9 := hN.out
        subst hN9
        exact hT3.out _ _ ⟨aN, cN, [_, _, _, _, _, _, _, _, _], rfl, rfl, Q3, O3, NE3, K3', by omega⟩
      clear Q O KW E NE
      rintro l' w5 ⟨aN, cN, us, hul, rfl, Q, O, NE, KW, sW⟩
      obtain ⟨v53, us, rfl⟩ : ∃ a b, us = a :: b := List.exists_cons_of_length_eq_add_one hul
      replace hul := Nat.succ.inj hul
      obtain ⟨v54, us, rfl⟩ : ∃ a b, us = a :: b := List.exists_cons_of_length_eq_add_one hul
      replace hul := Nat.succ.inj hul
      obtain ⟨v55, us, rfl⟩ : ∃ a b, us = a :: b := List.exists_cons_of_length_eq_add_one hul
      replace hul := Nat.succ.inj hul
      obtain ⟨v56, us, rfl⟩ : ∃ a b, us = a :: b := List.exists_cons_of_length_eq_add_one hul
      replace hul := Nat.succ.inj hul
      obtain ⟨v57, us, rfl⟩ : ∃ a b, us = a :: b := List.exists_cons_of_length_eq_add_one hul
      replace hul := Nat.succ.inj hul
      obtain ⟨v58, us, rfl⟩ : ∃ a b, us = a :: b := List.exists_cons_of_length_eq_add_one hul
      replace hul := Nat.succ.inj hul
      obtain ⟨v59, us, rfl⟩ : ∃ a b, us = a :: b := List.exists_cons_of_length_eq_add_one hul
      replace hul := Nat.succ.inj hul
      obtain ⟨v60, us, rfl⟩ : ∃ a b, us = a :: b := List.exists_cons_of_length_eq_add_one hul
      replace hul := Nat.succ.inj hul
      obtain ⟨v61, us, rfl⟩ : ∃ a b, us = a :: b := List.exists_cons_of_length_eq_add_one hul
      replace hul := Nat.succ.inj hul
      obtain rfl : us = [] := List.eq_nil_of_length_eq_zero hul
      clear hul
      simp only [List.take, List.drop, List.cons_append, List.nil_append]
      obtain ⟨z5, hz5⟩ : ∃ z5 : BxD, z5 = { zg with sd := zg.sd ++ [(⟨hk, (j : Int), hr, hc, hb, hp, hh_, hon⟩ : Ou)], aS := aN, cS := cN } := ⟨_, rfl⟩
      rw [← hz5] at Q O NE
      have hP5 : Hid (z5.p = accK x2.p (L.take (k + 1))) := by unfold Hid; rw [hz5]; exact hz2.out
      clear hz5
      go_wp2
      go_roundw
      case rel => exact ⟨k + 1, z5, by omega, by go_num, hP5, Q, O, NE, KW, sW⟩
      case measure => simp [intOf]; omega
     ·
      have hin : decide (0 ≤ hpt ∧ hpt ≤ (z.ga.length : Int) - 1) = false := decide_eq_false (by omega)
      go_upto_region 7 with fail
      refine wp_region_held (S := fun Y => Below wr.heap.size wr Y) (by kernel_rfl) ?_
      change wpAnyH _ _ _ _ _ _ _ _ (World.drew _)
      have hb0 : Below wr.heap.size wr wr.drew := (Below.refl _ _).drew
      obtain ⟨u0, hu0⟩ := mk_ wr.drew
      rw [← hu0] at hb0 ⊢
      clear hu0
      refine tw 0 22 (.slice (some ⟨b, off, none⟩) L.length cO) ?_
      refine tw 1 23 (.int .i64 k) ?_
      refine tw 2 24 (.pointer (some ⟨b, off + k * 8, none⟩)) ?_ (hy := by intro Y hSw; go_simp; try omega)
      refine tw 3 25 (.pointer (some ⟨b, off + k * 8, none⟩)) ?_
      refine tw 4 26 (.int .i64 hk) ?_ (hy := by intro Y hSw; obtain ⟨X0, X1, X2, X3, X4, X5, X6, X7⟩ := (E.belowA hSw (by omega)); go_simp)
      refine tw 5 27 (.bool true) ?_
      refine tw 6 28 (.bool true) ?_
      refine tw 7 29 (.slice (some ⟨b, off, none⟩) L.length cO) ?_
      refine tw 8 30 (.int .i64 k) ?_
      refine tw 9 31 (.pointer (some ⟨b, off + k * 8, none⟩)) ?_ (hy := by intro Y hSw; go_simp; try omega)
      refine tw 10 32 (.pointer (some ⟨b, off + k * 8 + 1, none⟩)) ?_
      refine tw 11 33 (.int .i64 hpt) ?_ (hy := by intro Y hSw; obtain ⟨X0, X1, X2, X3, X4, X5, X6, X7⟩ := (E.belowA hSw (by omega)); go_simp)
      refine tw 12 34 (.pointer (some ⟨q7, 7, none⟩)) ?_
      refine tw 13 35 (.slice z.aG z.ga.length z.cG) ?_ (hy := by intro Y hSw; obtain ⟨⟨X0, X1, X2, X3, X4, X5, X6, X7, X8, X9⟩, _⟩ := (Q.below hSw Q.lt); go_simp)
      refine tw 14 36 (.int .i64 (z.ga.length : Int)) ?_
      refine tw 15 37 (.int .i64 ((z.ga.length : Int) - 1)) ?_ (hy := by intro Y hSw; go_simp)
      refine w1 16 fun Kz hKz => ?_
      go_simp
      go_at_call 26
      refine (inB hpt 0 ((z.ga.length : Int) - 1) u0).mono ?_
      rintro e u9 ⟨rfl, hw_⟩
      rw [hw_]
      clear hw_
      rw [hin]
      refine hKz _ _ ⟨hb0, ?_⟩
      clear hKz Kz
      refine tw 17 39 (.bool false) ?_
      refine wpAnyH_done (by kernel_rfl) ?_ _
      have Q := Q.below hb0 Q.lt
      have O := O.later hb0
      have KW := KW.trans (hb0.mono KW.size)
      have E := E.belowA hb0 (by omega)
      have sW := Nat.lt_of_lt_of_le sW hb0.size
      clear hb0
      have hg : gateX z.p.ga (⟨hk, hpt, hr, hc, hb, hp, hh_, hon⟩ : Ou) = z.p.ga := if_neg (fun h => e3 ⟨h.2.1, h.2.2⟩)
      have hz2 : Hid (BxD.p { z with sd := z.sd ++ [(⟨hk, hpt, hr, hc, hb, hp, hh_, hon⟩ : Ou)] } = accK x2.p (L.take (k + 1))) := by
       unfold Hid
       rw [take_snoc hlt, hh.out, accK_snoc, ← hz.out]
       rw [hg]
       rfl
      clear hg hin d2
      replace e2 : Hid _ := e2
      replace e3 : Hid _ := e3
      go_upto_region 9 with fail
      refine join_regionA (fun l l' W' => ∃ (aN : Option Addr) (cN : Nat) (us : List Value), us.length = 9 ∧ l' = l.take 53 ++ us ++ l.drop 62 ∧ BxB W' q7 { z with sd := z.sd ++ [(⟨hk, hpt, hr, hc, hb, hp, hh_, hon⟩ : Ou)], aS := aN, cS := cN } ∧ BxO y.heap.size W' { z with sd := z.sd ++ [(⟨hk, hpt, hr, hc, hb, hp, hh_, hon⟩ : Ou)], aS := aN, cS := cN } ∧ BxNe q7 { z with sd := z.sd ++ [(⟨hk, hpt, hr, hc, hb, hp, hh_, hon⟩ : Ou)], aS := aN, cS := cN } ∧ Below y.heap.size y W' ∧ q7 < W'.heap.size) ?_ ?_
      rotate_left
      ·
       intro K2 hT3
       refine wp_region_held (S := fun Y => OuAtO Y b (off + k * 8) ⟨hk, hpt, hr, hc, hb, hp, hh_, hon⟩) (by kernel_rfl) ?_
       change wpAnyH _ _ _ _ _ _ _ _ (World.drew _)
       have kd : Below u0.heap.size u0 u0.drew := (Below.refl _ _).drew
       obtain ⟨u0, hu0⟩ := mk_ u0.drew
       rw [← hu0] at kd ⊢
       clear hu0
       have Q := Q.below kd Q.lt
       have O := O.later kd
       have KW := KW.trans (kd.mono KW.size)
       have E := E.belowA kd (by omega)
       have sd0 := kd.size
       clear kd
       refine tw 0 53 (.pointer (some ⟨q7, 9, none⟩)) ?_
       refine tw 2 55 (.slice (some ⟨b, off, none⟩) L.length cO) ?_
       refine tw 3 56 (.int .i64 k) ?_
       refine tw 4 57 (.pointer (some ⟨b, off + k * 8, none⟩)) ?_ (hy := by intro Y hSw; go_simp; try omega)
       refine tw 5 58 (.agg #[.int .i64 hk, .int .i64 hpt, .int .i64 hr, .int .i64 hc, .int .i64 hb, .int .i64 hp, .int .i64 hh_, .bool hon]) ?_ (hy := by intro Y hSw; obtain ⟨X0, X1, X2, X3, X4, X5, X6, X7⟩ := hSw; go_simp)
       refine wpAnyH_all (rs := [1, 6]) (by kernel_rfl) (by simp) ?_
       intro i hi; rcases (by simpa using hi : i = 1 ∨ i = 6) with rfl | rfl
       ·
        refine wpOp_step rfl (fun Kz hKz => ?_)
        rw [if_pos (by kernel_rfl)]
        have cc := Q
        obtain ⟨⟨q0, q1, q2, q3, q4, q5, q6, q7, q8, q9⟩, qf⟩ := cc
        go_simp
        clear q0 q1 q2 q3 q4 q5 q6 q7 q8 q9 qf
        refine hKz _ _ ⟨E, ?_⟩
        clear hKz Kz hi
        refine w1 6 fun Kz hKz => ?_
        go_simp
        obtain ⟨u1_, hu1⟩ := mk_ (u0.alloc (Obj.cells #[.int .i64 hk, .int .i64 hpt, .int .i64 hr, .int .i64 hc, .int .i64 hb, .int .i64 hp, .int .i64 hh_, .bool hon] 135))
        have V1 : FView ouEnc u1_ (some ⟨u0.heap.size, 0, none⟩) [(⟨hk, hpt, hr, hc, hb, hp, hh_, hon⟩ : Ou)] := by rw [hu1]; exact FView.oneO u0 _ ⟨hk, hpt, hr, hc, hb, hp, hh_, hon⟩
        have k1 : Below u0.heap.size u0 u1_ := by rw [hu1]; exact below_new _
        have s1_ : u0.heap.size < u1_.heap.size := by rw [hu1]; simp
        have Q := Q.below k1 Q.lt
        have O := O.later k1
        have KW := KW.trans (k1.mono KW.size)
        have E := E.belowA k1 (by omega)
        rw [← hu1]
        clear hu1 k1
        refine hKz _ _ ⟨E, ?_⟩
        clear hKz Kz
        refine w1 7 fun Kz hKz => ?_
        refine fapp ouEnc_len ouEnc_ones 60 _ _ 77 rfl rfl y.heap.size 135 i4 (.agg #[.int .i64 0, .int .i64 0, .int .i64 0, .int .i64 0, .int .i64 0, .int .i64 0, .int .i64 0, .bool false]) 64 Try.underlying77 hj4 hz40 hz41 hz42 rfl (by decide) (by decide) (.slice z.aS z.sd.length z.cS) z.sd rfl O.s (some ⟨u0.heap.size, 0, none⟩) 1 [(⟨hk, hpt, hr, hc, hb, hp, hh_, hon⟩ : Ou)] rfl (fun e => by cases e) V1 (by simp; omega) (by omega) ?_
        intro vN u2_ oN gN hob
        replace oN : FOwn ouEnc 8 135 y.heap.size u2_ vN (z.sd ++ [(⟨hk, hpt, hr, hc, hb, hp, hh_, hon⟩ : Ou)]) := oN
        have hk2 : ∀ g, g < u1_.heap.size → (Value.slice z.aS z.sd.length z.cS).ownBlock ≠ some g → u2_.heap[g]? = u1_.heap[g]? := fun g h1 h2 => gN.block g h1 (fun e => h2 e.symm)
        have Q := Q.keep (hk2 _ Q.lt (fun e => NE.s _ e rfl))
        have KW := KW.grown gN (by omega) (fun g e => (O.s.lt g e).1)
        have E := E.keepA (hk2 _ (by omega) (fun e => by have := (O.s.lt _ e).1; omega))
        have s2_ := gN.size
        obtain ⟨N, hN⟩ := mk_ (z.sd ++ [(⟨hk, hpt, hr, hc, hb, hp, hh_, hon⟩ : Ou)])
        rw [← hN] at oN
        replace hN : Hid _ := hN
        obtain ⟨aN, cN, rfl⟩ := oN.open_
        have O := O.said N aN cN oN hk2
        have NE' : ∀ b_, (Value.slice aN N.length cN).ownBlock = some b_ → b_ ≠ q7 := fun b_ e => hob.elim (fun h => by rw [h] at e; exact NE.s b_ e) (fun h => by rw [h] at e; have e2 := Option.some.inj e; omega)
        clear gN hk2 hob V1
        simp only [List.set_cons_zero, List.set_cons_succ]
        refine hKz _ _ ⟨E, ?_⟩
        clear hKz Kz
        refine tw 8 61 (.pointer (some ⟨q7, 9, none⟩)) ?_
        refine w1 9 fun Kz hKz => ?_
        have cc := Q
        obtain ⟨⟨q0, q1, q2, q3, q4, q5, q6, q7, q8, q9⟩, qf⟩ := cc
        have f9 := qf 9
        go_simp
        clear q0 q1 q2 q3 q4 q5 q6 q7 q8 q9 qf f9
        obtain ⟨u3_, hu3⟩ := mk_ (u2_.setCell ⟨q7, 9, none⟩ (.slice aN N.length cN))
        have Q3 : BxB u3_ q7 { z with sd := N, aS := aN, cS := cN } := by rw [hu3]; exact Q.sS N aN N.length cN rfl
        have NE3 : BxNe q7 { z with sd := N, aS := aN, cS := cN } := ⟨NE.t, NE.n, NE.g, NE.i, NE', NE.l⟩
        have kp : ∀ g, g ≠ q7 → u3_.heap[g]? = u2_.heap[g]? := fun g hg => by rw [hu3]; exact Below.heap_setCell _ _ _ _ hg
        have O3 := O.keepQ NE3 kp
        have K3' : Below y.heap.size y u3_ := by rw [hu3]; exact KW.setCell (p := ⟨q7, 9, none⟩) (by show _ ≤ q7; omega) _
        have s3_ : u3_.heap.size = u2_.heap.size := by rw [hu3]; simp
        replace s3_ := Nat.le_of_eq s3_.symm
        have E := E.keepA (kp _ (by omega))
        rw [← hu3]
        clear hu3 kp
        refine hKz _ _ ⟨E, ?_⟩
        clear hKz Kz
        refine wpAnyH_done (by kernel_rfl) ?_ _
        have hN9 := hN.out
        subst hN9
        exact hT3.out _ _ ⟨aN, cN, [_, _, _, _, _, _, _, _, _], rfl, rfl, Q3, O3, NE3, K3', by omega⟩
       ·
        refine wpOp_step rfl (fun Kz hKz => ?_)
        rw [if_pos (by kernel_rfl)]
        go_simp
        obtain ⟨u1_, hu1⟩ := mk_ (u0.alloc (Obj.cells #[.int .i64 hk, .int .i64 hpt, .int .i64 hr, .int .i64 hc, .int .i64 hb, .int .i64 hp, .int .i64 hh_, .bool hon] 135))
        have V1 : FView ouEnc u1_ (some ⟨u0.heap.size, 0, none⟩) [(⟨hk, hpt, hr, hc, hb, hp, hh_, hon⟩ : Ou)] := by rw [hu1]; exact FView.oneO u0 _ ⟨hk, hpt, hr, hc, hb, hp, hh_, hon⟩
        have k1 : Below u0.heap.size u0 u1_ := by rw [hu1]; exact below_new _
        have s1_ : u0.heap.size < u1_.heap.size := by rw [hu1]; simp
        have Q := Q.below k1 Q.lt
        have O := O.later k1
        have KW := KW.trans (k1.mono KW.size)
        have E := E.belowA k1 (by omega)
        rw [← hu1]
        clear hu1 k1
        refine hKz _ _ ⟨E, ?_⟩
        clear hKz Kz hi
        refine w1 1 fun Kz hKz => ?_
        have cc := Q
        obtain ⟨⟨q0, q1, q2, q3, q4, q5, q6, q7, q8, q9⟩, qf⟩ := cc
        go_simp
        clear q0 q1 q2 q3 q4 q5 q6 q7 q8 q9 qf
        refine hKz _ _ ⟨E, ?_⟩
        clear hKz Kz
        refine w1 7 fun Kz hKz => ?_
        refine fapp ouEnc_len ouEnc_ones 60 _ _ 77 rfl rfl y.heap.size 135 i4 (.agg #[.int .i64 0, .int .i64 0, .int .i64 0, .int .i64 0, .int .i64 0, .int .i64 0, .int .i64 0, .bool false]) 64 Try.underlying77 hj4 hz40 hz41 hz42 rfl (by decide) (by decide) (.slice z.aS z.sd.length z.cS) z.sd rfl O.s (some ⟨u0.heap.size, 0, none⟩) 1 [(⟨hk, hpt, hr, hc, hb, hp, hh_, hon⟩ : Ou)] rfl (fun e => by cases e) V1 (by simp; omega) (by omega) ?_
        intro vN u2_ oN gN hob
        replace oN : FOwn ouEnc 8 135 y.heap.size u2_ vN (z.sd ++ [(⟨hk, hpt, hr, hc, hb, hp, hh_, hon⟩ : Ou)]) := oN
        have hk2 : ∀ g, g < u1_.heap.size → (Value.slice z.aS z.sd.length z.cS).ownBlock ≠ some g → u2_.heap[g]? = u1_.heap[g]? := fun g h1 h2 => gN.block g h1 (fun e => h2 e.symm)
        have Q := Q.keep (hk2 _ Q.lt (fun e => NE.s _ e rfl))
        have KW := KW.grown gN (by omega) (fun g e => (O.s.lt g e).1)
        have E := E.keepA (hk2 _ (by omega) (fun e => by have := (O.s.lt _ e).1; omega))
        have s2_ := gN.size
        obtain ⟨N, hN⟩ := mk_ (z.sd ++ [(⟨hk, hpt, hr, hc, hb, hp, hh_, hon⟩ : Ou)])
        rw [← hN] at oN
        replace hN : Hid _ := hN
        obtain ⟨aN, cN, rfl⟩ := oN.open_
        have O := O.said N aN cN oN hk2
        have NE' : ∀ b_, (Value.slice aN N.length cN).ownBlock = some b_ → b_ ≠ q7 := fun b_ e => hob.elim (fun h => by rw [h] at e; exact NE.s b_ e) (fun h => by rw [h] at e; have e2 := Option.some.inj e; omega)
        clear gN hk2 hob V1
        simp only [List.set_cons_zero, List.set_cons_succ]
        refine hKz _ _ ⟨E, ?_⟩
        clear hKz Kz
        refine tw 8 61 (.pointer (some ⟨q7, 9, none⟩)) ?_
        refine w1 9 fun Kz hKz => ?_
        have cc := Q
        obtain ⟨⟨q0, q1, q2, q3, q4, q5, q6, q7, q8, q9⟩, qf⟩ := cc
        have f9 := qf 9
        go_simp
        clear q0 q1 q2 q3 q4 q5 q6 q7 q8 q9 qf f9
        obtain ⟨u3_, hu3⟩ := mk_ (u2_.setCell ⟨q7, 9, none⟩ (.slice aN N.length cN))
        have Q3 : BxB u3_ q7 { z with sd := N, aS := aN, cS := cN } := by rw [hu3]; exact Q.sS N aN N.length cN rfl
        have NE3 : BxNe q7 { z with sd := N, aS := aN, cS := cN } := ⟨NE.t, NE.n, NE.g, NE.i, NE', NE.l⟩
        have kp : ∀ g, g ≠ q7 → u3_.heap[g]? = u2_.heap[g]? := fun g hg => by rw [hu3]; exact Below.heap_setCell _ _ _ _ hg
        have O3 := O.keepQ NE3 kp
        have K3' : Below y.heap.size y u3_ := by rw [hu3]; exact KW.setCell (p := ⟨q7, 9, none⟩) (by show _ ≤ q7; omega) _
        have s3_ : u3_.heap.size = u2_.heap.size := by rw [hu3]; simp
        replace s3_ := Nat.le_of_eq s3_.symm
        have E := E.keepA (kp _ (by omega))
        rw [← hu3]
        clear hu3 kp
        refine hKz _ _ ⟨E, ?_⟩
        clear hKz Kz
        refine wpAnyH_done (by kernel_rfl) ?_ _
        have hN9 := hN.out
        subst hN9
        exact hT3.out _ _ ⟨aN, cN, [_, _, _, _, _, _, _, _, _], rfl, rfl, Q3, O3, NE3, K3', by omega⟩
      clear Q O KW E NE
      rintro l' w5 ⟨aN, cN, us, hul, rfl, Q, O, NE, KW, sW⟩
      obtain ⟨v53, us, rfl⟩ : ∃ a b, us = a :: b := List.exists_cons_of_length_eq_add_one hul
      replace hul := Nat.succ.inj hul
      obtain ⟨v54, us, rfl⟩ : ∃ a b, us = a :: b := List.exists_cons_of_length_eq_add_one hul
      replace hul := Nat.succ.inj hul
      obtain ⟨v55, us, rfl⟩ : ∃ a b, us = a :: b := List.exists_cons_of_length_eq_add_one hul
      replace hul := Nat.succ.inj hul
      obtain ⟨v56, us, rfl⟩ : ∃ a b, us = a :: b := List.exists_cons_of_length_eq_add_one hul
      replace hul := Nat.succ.inj hul
      obtain ⟨v57, us, rfl⟩ : ∃ a b, us = a :: b := List.exists_cons_of_length_eq_add_one hul
      replace hul := Nat.succ.inj hul
      obtain ⟨v58, us, rfl⟩ : ∃ a b, us = a :: b := List.exists_cons_of_length_eq_add_one hul
      replace hul := Nat.succ.inj hul
      obtain ⟨v59, us, rfl⟩ : ∃ a b, us = a :: b := List.exists_cons_of_length_eq_add_one hul
      replace hul := Nat.succ.inj hul
      obtain ⟨v60, us, rfl⟩ : ∃ a b, us = a :: b := List.exists_cons_of_length_eq_add_one hul
      replace hul := Nat.succ.inj hul
      obtain ⟨v61, us, rfl⟩ : ∃ a b, us = a :: b := List.exists_cons_of_length_eq_add_one hul
      replace hul := Nat.succ.inj hul
      obtain rfl : us = [] := List.eq_nil_of_length_eq_zero hul
      clear hul
      simp only [List.take, List.drop, List.cons_append, List.nil_append]
      obtain ⟨z5, hz5⟩ : ∃ z5 : BxD, z5 = { z with sd := z.sd ++ [(⟨hk, hpt, hr, hc, hb, hp, hh_, hon⟩ : Ou)], aS := aN, cS := cN } := ⟨_, rfl⟩
      rw [← hz5] at Q O NE
      have hP5 : Hid (z5.p = accK x2.p (L.take (k + 1))) := by unfold Hid; rw [hz5]; exact hz2.out
      clear hz5
      go_wp2
      go_roundw
      case rel => exact ⟨k + 1, z5, by omega, by go_num, hP5, Q, O, NE, KW, sW⟩
      case measure => simp [intOf]; omega
    ·
     have d2 : (hk == 2) = false := by simpa using e2
     go_upto_region 7 with fail
     refine wp_region_held (S := fun Y => Below wr.heap.size wr Y) (by kernel_rfl) ?_
     change wpAnyH _ _ _ _ _ _ _ _ (World.drew _)
     have hb0 : Below wr.heap.size wr wr.drew := (Below.refl _ _).drew
     obtain ⟨u0, hu0⟩ := mk_ wr.drew
     rw [← hu0] at hb0 ⊢
     clear hu0
     refine tw 0 22 (.slice (some ⟨b, off, none⟩) L.length cO) ?_
     refine tw 1 23 (.int .i64 k) ?_
     refine tw 2 24 (.pointer (some ⟨b, off + k * 8, none⟩)) ?_ (hy := by intro Y hSw; go_simp; try omega)
     refine tw 3 25 (.pointer (some ⟨b, off + k * 8, none⟩)) ?_
     refine tw 4 26 (.int .i64 hk) ?_ (hy := by intro Y hSw; obtain ⟨X0, X1, X2, X3, X4, X5, X6, X7⟩ := (E.belowA hSw (by omega)); go_simp)
     refine tw 5 27 (.bool false) ?_
     refine tw 6 28 (.bool false) ?_
     refine ts 7 29 ?_
     refine ts 8 30 ?_
     refine ts 9 31 ?_
     refine ts 10 32 ?_
     refine ts 11 33 ?_
     refine ts 12 34 ?_
     refine ts 13 35 ?_
     refine ts 14 36 ?_
     refine ts 15 37 ?_
     refine ts 16 38 ?_
     refine tw 17 39 (.bool false) ?_
     refine wpAnyH_done (by kernel_rfl) ?_ _
     have Q := Q.below hb0 Q.lt
     have O := O.later hb0
     have KW := KW.trans (hb0.mono KW.size)
     have E := E.belowA hb0 (by omega)
     have sW := Nat.lt_of_lt_of_le sW hb0.size
     clear hb0
     have hg : gateX z.p.ga (⟨hk, hpt, hr, hc, hb, hp, hh_, hon⟩ : Ou) = z.p.ga := if_neg (fun h => e2 h.1)
     have hz2 : Hid (BxD.p { z with sd := z.sd ++ [(⟨hk, hpt, hr, hc, hb, hp, hh_, hon⟩ : Ou)] } = accK x2.p (L.take (k + 1))) := by
      unfold Hid
      rw [take_snoc hlt, hh.out, accK_snoc, ← hz.out]
      rw [hg]
      rfl
     clear hg d2
     replace e2 : Hid _ := e2
     go_upto_region 9 with fail
     refine join_regionA (fun l l' W' => ∃ (aN : Option Addr) (cN : Nat) (us : List Value), us.length = 9 ∧ l' = l.take 53 ++ us ++ l.drop 62 ∧ BxB W' q7 { z with sd := z.sd ++ [(⟨hk, hpt, hr, hc, hb, hp, hh_, hon⟩ : Ou)], aS := aN, cS := cN } ∧ BxO y.heap.size W' { z with sd := z.sd ++ [(⟨hk, hpt, hr, hc, hb, hp, hh_, hon⟩ : Ou)], aS := aN, cS := cN } ∧ BxNe q7 { z with sd := z.sd ++ [(⟨hk, hpt, hr, hc, hb, hp, hh_, hon⟩ : Ou)], aS := aN, cS := cN } ∧ Below y.heap.size y W' ∧ q7 < W'.heap.size) ?_ ?_
     rotate_left
     ·
      intro K2 hT3
      refine wp_region_held (S := fun Y => OuAtO Y b (off + k * 8) ⟨hk, hpt, hr, hc, hb, hp, hh_, hon⟩) (by kernel_rfl) ?_
      change wpAnyH _ _ _ _ _ _ _ _ (World.drew _)
      have kd : Below u0.heap.size u0 u0.drew := (Below.refl _ _).drew
      obtain ⟨u0, hu0⟩ := mk_ u0.drew
      rw [← hu0] at kd ⊢
      clear hu0
      have Q := Q.below kd Q.lt
      have O := O.later kd
      have KW := KW.trans (kd.mono KW.size)
      have E := E.belowA kd (by omega)
      have sd0 := kd.size
      clear kd
      refine tw 0 53 (.pointer (some ⟨q7, 9, none⟩)) ?_
      refine tw 2 55 (.slice (some ⟨b, off, none⟩) L.length cO) ?_
      refine tw 3 56 (.int .i64 k) ?_
      refine tw 4 57 (.pointer (some ⟨b, off + k * 8, none⟩)) ?_ (hy := by intro Y hSw; go_simp; try omega)
      refine tw 5 58 (.agg #[.int .i64 hk, .int .i64 hpt, .int .i64 hr, .int .i64 hc, .int .i64 hb, .int .i64 hp, .int .i64 hh_, .bool hon]) ?_ (hy := by intro Y hSw; obtain ⟨X0, X1, X2, X3, X4, X5, X6, X7⟩ := hSw; go_simp)
      refine wpAnyH_all (rs := [1, 6]) (by kernel_rfl) (by simp) ?_
      intro i hi; rcases (by simpa using hi : i = 1 ∨ i = 6) with rfl | rfl
      ·
       refine wpOp_step rfl (fun Kz hKz => ?_)
       rw [if_pos (by kernel_rfl)]
       have cc := Q
       obtain ⟨⟨q0, q1, q2, q3, q4, q5, q6, q7, q8, q9⟩, qf⟩ := cc
       go_simp
       clear q0 q1 q2 q3 q4 q5 q6 q7 q8 q9 qf
       refine hKz _ _ ⟨E, ?_⟩
       clear hKz Kz hi
       refine w1 6 fun Kz hKz => ?_
       go_simp
       obtain ⟨u1_, hu1⟩ := mk_ (u0.alloc (Obj.cells #[.int .i64 hk, .int .i64 hpt, .int .i64 hr, .int .i64 hc, .int .i64 hb, .int .i64 hp, .int .i64 hh_, .bool hon] 135))
       have V1 : FView ouEnc u1_ (some ⟨u0.heap.size, 0, none⟩) [(⟨hk, hpt, hr, hc, hb, hp, hh_, hon⟩ : Ou)] := by rw [hu1]; exact FView.oneO u0 _ ⟨hk, hpt, hr, hc, hb, hp, hh_, hon⟩
       have k1 : Below u0.heap.size u0 u1_ := by rw [hu1]; exact below_new _
       have s1_ : u0.heap.size < u1_.heap.size := by rw [hu1]; simp
       have Q := Q.below k1 Q.lt
       have O := O.later k1
       have KW := KW.trans (k1.mono KW.size)
       have E := E.belowA k1 (by omega)
       rw [← hu1]
       clear hu1 k1
       refine hKz _ _ ⟨E, ?_⟩
       clear hKz Kz
       refine w1 7 fun Kz hKz => ?_
       refine fapp ouEnc_len ouEnc_ones 60 _ _ 77 rfl rfl y.heap.size 135 i4 (.agg #[.int .i64 0, .int .i64 0, .int .i64 0, .int .i64 0, .int .i64 0, .int .i64 0, .int .i64 0, .bool false]) 64 Try.underlying77 hj4 hz40 hz41 hz42 rfl (by decide) (by decide) (.slice z.aS z.sd.length z.cS) z.sd rfl O.s (some ⟨u0.heap.size, 0, none⟩) 1 [(⟨hk, hpt, hr, hc, hb, hp, hh_, hon⟩ : Ou)] rfl (fun e => by cases e) V1 (by simp; omega) (by omega) ?_
       intro vN u2_ oN gN hob
       replace oN : FOwn ouEnc 8 135 y.heap.size u2_ vN (z.sd ++ [(⟨hk, hpt, hr, hc, hb, hp, hh_, hon⟩ : Ou)]) := oN
       have hk2 : ∀ g, g < u1_.heap.size → (Value.slice z.aS z.sd.length z.cS).ownBlock ≠ some g → u2_.heap[g]? = u1_.heap[g]? := fun g h1 h2 => gN.block g h1 (fun e => h2 e.symm)
       have Q := Q.keep (hk2 _ Q.lt (fun e => NE.s _ e rfl))
       have KW := KW.grown gN (by omega) (fun g e => (O.s.lt g e).1)
       have E := E.keepA (hk2 _ (by omega) (fun e => by have := (O.s.lt _ e).1; omega))
       have s2_ := gN.size
       obtain ⟨N, hN⟩ := mk_ (z.sd ++ [(⟨hk, hpt, hr, hc, hb, hp, hh_, hon⟩ : Ou)])
       rw [← hN] at oN
       replace hN : Hid _ := hN
       obtain ⟨aN, cN, rfl⟩ := oN.open_
       have O := O.said N aN cN oN hk2
       have NE' : ∀ b_, (Value.slice aN N.length cN).ownBlock = some b_ → b_ ≠ q7 := fun b_ e => hob.elim (fun h => by rw [h] at e; exact NE.s b_ e) (fun h => by rw [h] at e; have e2 := Option.some.inj e; omega)
       clear gN hk2 hob V1
       simp only [List.set_cons_zero, List.set_cons_succ]
       refine hKz _ _ ⟨E, ?_⟩
       clear hKz Kz
       refine tw 8 61 (.pointer (some ⟨q7, 9, none⟩)) ?_
       refine w1 9 fun Kz hKz => ?_
       have cc := Q
       obtain ⟨⟨q0, q1, q2, q3, q4, q5, q6, q7, q8, q9⟩, qf⟩ := cc
       have f9 := qf 9
       go_simp
       clear q0 q1 q2 q3 q4 q5 q6 q7 q8 q9 qf f9
       obtain ⟨u3_, hu3⟩ := mk_ (u2_.setCell ⟨q7, 9, none⟩ (.slice aN N.length cN))
       have Q3 : BxB u3_ q7 { z with sd := N, aS := aN, cS := cN } := by rw [hu3]; exact Q.sS N aN N.length cN rfl
       have NE3 : BxNe q7 { z with sd := N, aS := aN, cS := cN } := ⟨NE.t, NE.n, NE.g, NE.i, NE', NE.l⟩
       have kp : ∀ g, g ≠ q7 → u3_.heap[g]? = u2_.heap[g]? := fun g hg => by rw [hu3]; exact Below.heap_setCell _ _ _ _ hg
       have O3 := O.keepQ NE3 kp
       have K3' : Below y.heap.size y u3_ := by rw [hu3]; exact KW.setCell (p := ⟨q7, 9, none⟩) (by show _ ≤ q7; omega) _
       have s3_ : u3_.heap.size = u2_.heap.size := by rw [hu3]; simp
       replace s3_ := Nat.le_of_eq s3_.symm
       have E := E.keepA (kp _ (by omega))
       rw [← hu3]
       clear hu3 kp
       refine hKz _ _ ⟨E, ?_⟩
       clear hKz Kz
       refine wpAnyH_done (by kernel_rfl) ?_ _
       have hN9 := hN.out
       subst hN9
       exact hT3.out _ _ ⟨aN, cN, [_, _, _, _, _, _, _, _, _], rfl, rfl, Q3, O3, NE3, K3', by omega⟩
      ·
       refine wpOp_step rfl (fun Kz hKz => ?_)
       rw [if_pos (by kernel_rfl)]
       go_simp
       obtain ⟨u1_, hu1⟩ := mk_ (u0.alloc (Obj.cells #[.int .i64 hk, .int .i64 hpt, .int .i64 hr, .int .i64 hc, .int .i64 hb, .int .i64 hp, .int .i64 hh_, .bool hon] 135))
       have V1 : FView ouEnc u1_ (some ⟨u0.heap.size, 0, none⟩) [(⟨hk, hpt, hr, hc, hb, hp, hh_, hon⟩ : Ou)] := by rw [hu1]; exact FView.oneO u0 _ ⟨hk, hpt, hr, hc, hb, hp, hh_, hon⟩
       have k1 : Below u0.heap.size u0 u1_ := by rw [hu1]; exact below_new _
       have s1_ : u0.heap.size < u1_.heap.size := by rw [hu1]; simp
       have Q := Q.below k1 Q.lt
       have O := O.later k1
       have KW := KW.trans (k1.mono KW.size)
       have E := E.belowA k1 (by omega)
       rw [← hu1]
       clear hu1 k1
       refine hKz _ _ ⟨E, ?_⟩
       clear hKz Kz hi
       refine w1 1 fun Kz hKz => ?_
       have cc := Q
       obtain ⟨⟨q0, q1, q2, q3, q4, q5, q6, q7, q8, q9⟩, qf⟩ := cc
       go_simp
       clear q0 q1 q2 q3 q4 q5 q6 q7 q8 q9 qf
       refine hKz _ _ ⟨E, ?_⟩
       clear hKz Kz
       refine w1 7 fun Kz hKz => ?_
       refine fapp ouEnc_len ouEnc_ones 60 _ _ 77 rfl rfl y.heap.size 135 i4 (.agg #[.int .i64 0, .int .i64 0, .int .i64 0, .int .i64 0, .int .i64 0, .int .i64 0, .int .i64 0, .bool false]) 64 Try.underlying77 hj4 hz40 hz41 hz42 rfl (by decide) (by decide) (.slice z.aS z.sd.length z.cS) z.sd rfl O.s (some ⟨u0.heap.size, 0, none⟩) 1 [(⟨hk, hpt, hr, hc, hb, hp, hh_, hon⟩ : Ou)] rfl (fun e => by cases e) V1 (by simp; omega) (by omega) ?_
       intro vN u2_ oN gN hob
       replace oN : FOwn ouEnc 8 135 y.heap.size u2_ vN (z.sd ++ [(⟨hk, hpt, hr, hc, hb, hp, hh_, hon⟩ : Ou)]) := oN
       have hk2 : ∀ g, g < u1_.heap.size → (Value.slice z.aS z.sd.length z.cS).ownBlock ≠ some g → u2_.heap[g]? = u1_.heap[g]? := fun g h1 h2 => gN.block g h1 (fun e => h2 e.symm)
       have Q := Q.keep (hk2 _ Q.lt (fun e => NE.s _ e rfl))
       have KW := KW.grown gN (by omega) (fun g e => (O.s.lt g e).1)
       have E := E.keepA (hk2 _ (by omega) (fun e => by have := (O.s.lt _ e).1; omega))
       have s2_ := gN.size
       obtain ⟨N, hN⟩ := mk_ (z.sd ++ [(⟨hk, hpt, hr, hc, hb, hp, hh_, hon⟩ : Ou)])
       rw [← hN] at oN
       replace hN : Hid _ := hN
       obtain ⟨aN, cN, rfl⟩ := oN.open_
       have O := O.said N aN cN oN hk2
       have NE' : ∀ b_, (Value.slice aN N.length cN).ownBlock = some b_ → b_ ≠ q7 := fun b_ e => hob.elim (fun h => by rw [h] at e; exact NE.s b_ e) (fun h => by rw [h] at e; have e2 := Option.some.inj e; omega)
       clear gN hk2 hob V1
       simp only [List.set_cons_zero, List.set_cons_succ]
       refine hKz _ _ ⟨E, ?_⟩
       clear hKz Kz
       refine tw 8 61 (.pointer (some ⟨q7, 9, none⟩)) ?_
       refine w1 9 fun Kz hKz => ?_
       have cc := Q
       obtain ⟨⟨q0, q1, q2, q3, q4, q5, q6, q7, q8, q9⟩, qf⟩ := cc
       have f9 := qf 9
       go_simp
       clear q0 q1 q2 q3 q4 q5 q6 q7 q8 q9 qf f9
       obtain ⟨u3_, hu3⟩ := mk_ (u2_.setCell ⟨q7, 9, none⟩ (.slice aN N.length cN))
       have Q3 : BxB u3_ q7 { z with sd := N, aS := aN, cS := cN } := by rw [hu3]; exact Q.sS N aN N.length cN rfl
       have NE3 : BxNe q7 { z with sd := N, aS := aN, cS := cN } := ⟨NE.t, NE.n, NE.g, NE.i, NE', NE.l⟩
       have kp : ∀ g, g ≠ q7 → u3_.heap[g]? = u2_.heap[g]? := fun g hg => by rw [hu3]; exact Below.heap_setCell _ _ _ _ hg
       have O3 := O.keepQ NE3 kp
       have K3' : Below y.heap.size y u3_ := by rw [hu3]; exact KW.setCell (p := ⟨q7, 9, none⟩) (by show _ ≤ q7; omega) _
       have s3_ : u3_.heap.size = u2_.heap.size := by rw [hu3]; simp
       replace s3_ := Nat.le_of_eq s3_.symm
       have E := E.keepA (kp _ (by omega))
       rw [← hu3]
       clear hu3 kp
       refine hKz _ _ ⟨E, ?_⟩
       clear hKz Kz
       refine wpAnyH_done (by kernel_rfl) ?_ _
       have hN9 := hN.out
       subst hN9
       exact hT3.out _ _ ⟨aN, cN, [_, _, _, _, _, _, _, _, _], rfl, rfl, Q3, O3, NE3, K3', by omega⟩
     clear Q O KW E NE
     rintro l' w5 ⟨aN, cN, us, hul, rfl, Q, O, NE, KW, sW⟩
     obtain ⟨v53, us, rfl⟩ : ∃ a b, us = a :: b := List.exists_cons_of_length_eq_add_one hul
     replace hul := Nat.succ.inj hul
     obtain ⟨v54, us, rfl⟩ : ∃ a b, us = a :: b := List.exists_cons_of_length_eq_add_one hul
     replace hul := Nat.succ.inj hul
     obtain ⟨v55, us, rfl⟩ : ∃ a b, us = a :: b := List.exists_cons_of_length_eq_add_one hul
     replace hul := Nat.succ.inj hul
     obtain ⟨v56, us, rfl⟩ : ∃ a b, us = a :: b := List.exists_cons_of_length_eq_add_one hul
     replace hul := Nat.succ.inj hul
     obtain ⟨v57, us, rfl⟩ : ∃ a b, us = a :: b := List.exists_cons_of_length_eq_add_one hul
     replace hul := Nat.succ.inj hul
     obtain ⟨v58, us, rfl⟩ : ∃ a b, us = a :: b := List.exists_cons_of_length_eq_add_one hul
     replace hul := Nat.succ.inj hul
     obtain ⟨v59, us, rfl⟩ : ∃ a b, us = a :: b := List.exists_cons_of_length_eq_add_one hul
     replace hul := Nat.succ.inj hul
     obtain ⟨v60, us, rfl⟩ : ∃ a b, us = a :: b := List.exists_cons_of_length_eq_add_one hul
     replace hul := Nat.succ.inj hul
     obtain ⟨v61, us, rfl⟩ : ∃ a b, us = a :: b := List.exists_cons_of_length_eq_add_one hul
     replace hul := Nat.succ.inj hul
     obtain rfl : us = [] := List.eq_nil_of_length_eq_zero hul
     clear hul
     simp only [List.take, List.drop, List.cons_append, List.nil_append]
     obtain ⟨z5, hz5⟩ : ∃ z5 : BxD, z5 = { z with sd := z.sd ++ [(⟨hk, hpt, hr, hc, hb, hp, hh_, hon⟩ : Ou)], aS := aN, cS := cN } := ⟨_, rfl⟩
     rw [← hz5] at Q O NE
     have hP5 : Hid (z5.p = accK x2.p (L.take (k + 1))) := by unfold Hid; rw [hz5]; exact hz2.out
     clear hz5
     go_wp2
     go_roundw
     case rel => exact ⟨k + 1, z5, by omega, by go_num, hP5, Q, O, NE, KW, sW⟩
     case measure => simp [intOf]; omega
   ·
    obtain rfl : k = L.length := by omega
    rw [List.take_length] at hz
    have B5 := B0.trans (KW.mono B0.size)
    have Z := Z0.below KW (by omega)
    by_cases h40 : z.sd.length ≤ 40
    ·
     have d40 : decide (40 < (z.sd.length : Int)) = false := decide_eq_false (by omega)
     have hX : Hid (z.p = accX x.p s L) := by
      unfold Hid
      rw [accX_yes hm.out, hz.out, p2.out, lastS_all (by have h := congrArg (fun b => b.sd.length) hz.out; unfold accK at h; rw [p2.out] at h; simp only at h; have h2 : z.p.sd.length = z.sd.length := rfl; omega)]
      rfl
     obtain ⟨W9, hW9⟩ := mk_ ((((((((((wr.setCell ⟨w.heap.size + 1, 0, none⟩ (.int .i64 z.id)).setCell ⟨w.heap.size + 1, 1, none⟩ (.int .i64 z.po)).setCell ⟨w.heap.size + 1, 2, none⟩ (.int .i64 z.rg.ep)).setCell ⟨w.heap.size + 1, 3, none⟩ (.int .i64 z.rg.ow)).setCell ⟨w.heap.size + 1, 4, none⟩ (.int .i64 z.rg.pa)).setCell ⟨w.heap.size + 1, 5, none⟩ (.slice z.aT z.two.length z.cT)).setCell ⟨w.heap.size + 1, 6, none⟩ (.slice z.aN z.net.length z.cN)).setCell ⟨w.heap.size + 1, 7, none⟩ (.slice z.aG z.ga.length z.cG)).setCell ⟨w.heap.size + 1, 8, none⟩ (.slice z.aL z.ln.length z.cL)).setCell ⟨w.heap.size + 1, 9, none⟩ (.slice z.aS z.sd.length z.cS))
     have ZZ : BxB W9 (w.heap.size + 1) z := by rw [hW9]; exact Z.put z
     have kp : ∀ k, k ≠ w.heap.size + 1 → W9.heap[k]? = wr.heap[k]? := fun k hk => by rw [hW9, Below.heap_setCell _ _ _ _ hk, Below.heap_setCell _ _ _ _ hk, Below.heap_setCell _ _ _ _ hk, Below.heap_setCell _ _ _ _ hk, Below.heap_setCell _ _ _ _ hk, Below.heap_setCell _ _ _ _ hk, Below.heap_setCell _ _ _ _ hk, Below.heap_setCell _ _ _ _ hk, Below.heap_setCell _ _ _ _ hk, Below.heap_setCell _ _ _ _ hk]
     have B9 : Below w.heap.size w W9 := by rw [hW9]; exact ((((((((((B5.setCell (p := ⟨w.heap.size + 1, 0, none⟩) (by show _ ≤ w.heap.size + 1; omega) _).setCell (p := ⟨w.heap.size + 1, 1, none⟩) (by show _ ≤ w.heap.size + 1; omega) _).setCell (p := ⟨w.heap.size + 1, 2, none⟩) (by show _ ≤ w.heap.size + 1; omega) _).setCell (p := ⟨w.heap.size + 1, 3, none⟩) (by show _ ≤ w.heap.size + 1; omega) _).setCell (p := ⟨w.heap.size + 1, 4, none⟩) (by show _ ≤ w.heap.size + 1; omega) _).setCell (p := ⟨w.heap.size + 1, 5, none⟩) (by show _ ≤ w.heap.size + 1; omega) _).setCell (p := ⟨w.heap.size + 1, 6, none⟩) (by show _ ≤ w.heap.size + 1; omega) _).setCell (p := ⟨w.heap.size + 1, 7, none⟩) (by show _ ≤ w.heap.size + 1; omega) _).setCell (p := ⟨w.heap.size + 1, 8, none⟩) (by show _ ≤ w.heap.size + 1; omega) _).setCell (p := ⟨w.heap.size + 1, 9, none⟩) (by show _ ≤ w.heap.size + 1; omega) _)
     have O9 : BxO w.heap.size W9 z := (O.keep (fun g h1 h2 => kp g (by omega))).base (by omega)
     obtain ⟨⟨t0, t1, t2, t3, t4, t5, t6, t7, t8, t9⟩, tf⟩ := ZZ
     clear tf
     have cc := Z
     obtain ⟨⟨z0, z1, z2, z3, z4, z5, z6, z7, z8, z9⟩, zf⟩ := cc
     obtain ⟨e0, e1, e2, e3, e4, e5, e6, e7, e8, e9⟩ := ten zf
     clear zf
     have cc := Q
     obtain ⟨⟨q0, q1, q2, q3, q4, q5, q6, q7, q8, q9⟩, qf⟩ := cc
     clear qf
     go_wp2
     refine bodyPost_ret (v := bvx z) (by simp [bvx, results, Try.results68, go_sem, *]) rfl ⟨z, rfl, hX.out, by rw [← hW9]; exact O9, by rw [← hW9]; exact B9⟩
    ·
     have d40 : decide (40 < (z.sd.length : Int)) = true := decide_eq_true (by omega)
     obtain ⟨gs, hgs⟩ : ∃ g, z.aS = some ⟨g, 0, none⟩ := by
      rcases O.s.2 with ⟨q, h0⟩ | ⟨g, c, cur, q, _⟩
      ·
       simp only [Value.slice.injEq] at q; omega
      ·
       simp only [Value.slice.injEq] at q; exact ⟨g, q.1⟩
     have hcap : z.sd.length ≤ z.cS := O.s.capM
     have hbs : z.sd.length ≤ 2097152 := bsz
     obtain ⟨n, hn⟩ : ∃ n, z.sd.length = n + 40 := ⟨z.sd.length - 40, by omega⟩
     have hwr : IntKind.i64.wrap ((z.sd.length : Int) - 40) = (n : Int) := by rw [IntKind.wrap_i64]; omega
     have hw2 : (z.sd.length : Int) - 40 = (n : Int) := by omega
     have kx : Below wr.heap.size wr (wr.alloc (Obj.cells #[] 135)) := below_new _
     have oE : FOwn ouEnc 8 135 wr.heap.size (wr.alloc (Obj.cells #[] 135)) (.slice (some ⟨wr.heap.size, 0, none⟩) 0 0) ([] : List Ou) := FOwn.empty wr
     have vS := O.s.view.2
     rw [hgs] at vS
     have vD := (vS.below kx (vS.lt ouEnc_len (by omega))).dropO (k := n) (by omega)
     have Qx := Q.below kx Q.lt
     have cc := Q
     obtain ⟨⟨m0, m1, m2, m3, m4, m5, m6, m7, m8, m9⟩, mf⟩ := cc
     rw [hgs] at m9
     have f9 := mf 9
     clear mf
     obtain ⟨N, hN⟩ := mk_ (z.sd.drop n)
     have hld : Hid (N.length = 40) := by unfold Hid; rw [hN, List.length_drop]; omega
     rw [← hN] at vD
     replace hN : Hid _ := hN
     replace hn : Hid _ := hn
     go_wp2_with (first | (at_builtin; refine fappL ouEnc_len ouEnc_ones rfl _ _ 77 rfl wr.heap.size 135 i4 (.agg #[.int .i64 0, .int .i64 0, .int .i64 0, .int .i64 0, .int .i64 0, .int .i64 0, .int .i64 0, .bool false]) 64 Try.underlying77 hj4 hz40 hz41 hz42 rfl (by decide) (by decide) _ ([] : List Ou) rfl oE (some ⟨gs, n * 8, none⟩) ?zc N ?zx (fun e => by cases e) vD ?z0 ?z1 ?_) | go_in)
     case zc => exact z.cS - n
     case zx => go_simp; have h9 := hn.out; have h8 := hld.out; omega
     case z0 => have h8 := hld.out; simp only [List.length_nil]; omega
     case z1 => simp
     intro vZ w1 hownZ hgrowZ _
     have bZ : Below wr.heap.size wr w1 := kx.grown hgrowZ (by simp) (fun j e => (oE.lt j e).1)
     replace hownZ : FOwn ouEnc 8 135 wr.heap.size w1 vZ N := hownZ
     obtain ⟨a1, c1, rfl⟩ := hownZ.open_
     clear hgrowZ m0 m1 m2 m3 m4 m5 m6 m7 m8 m9 f9 kx oE vS vD Qx
     have Q := Q.below bZ Q.lt
     have Z := Z.below bZ Z.lt
     have KW := KW.trans (bZ.mono KW.size)
     have sz1 := bZ.size
     have lo1 := fun g e => (hownZ.lt g e).1
     have ys : y.heap.size ≤ wr.heap.size := by have := B5.size; omega
     have O := (O.later bZ).said N a1 c1 (hownZ.base ys) (fun g _ _ => rfl)
     have NE3 : BxNe q7 { z with sd := N, aS := a1, cS := c1 } := ⟨NE.t, NE.n, NE.g, NE.i, fun b_ e => (by have := lo1 b_ e; omega), NE.l⟩
     obtain ⟨w2, hw2'⟩ : ∃ y_, y_ = w1.setCell ⟨q7, 9, none⟩ (.slice a1 N.length c1) := ⟨_, rfl⟩
     have Q2 : BxB w2 q7 { z with sd := N, aS := a1, cS := c1 } := by rw [hw2']; exact Q.sS N a1 N.length c1 rfl
     have kp2 : ∀ g, g ≠ q7 → w2.heap[g]? = w1.heap[g]? := fun g hg => by rw [hw2']; exact Below.heap_setCell _ _ _ _ hg
     have O := O.keepQ NE3 kp2
     have Z := Z.keep (kp2 _ (by omega))
     have K2' : Below y.heap.size y w2 := by rw [hw2']; exact KW.setCell (p := ⟨q7, 9, none⟩) (by show _ ≤ q7; omega) _
     have e2' : N = lastS (x2.p.sd ++ L) := by
      rw [hN.out]
      have e9 : z.p.sd = x2.p.sd ++ L := by rw [hz.out]; rfl
      rw [← e9]
      show _ = z.sd.drop (z.sd.length - 40)
      have h9 := hn.out
      rw [show z.sd.length - 40 = n by omega]
     have hX : Hid (BxD.p { z with sd := N, aS := a1, cS := c1 } = accX x.p s L) := by
      unfold Hid
      rw [accX_yes hm.out, ← p2.out]
      show (⟨z.p.id, z.p.po, z.p.rg, z.p.two, z.p.net, z.p.ga, z.p.ln, N⟩ : Bx) = _
      rw [e2', hz.out]
      rfl
     clear e2'
     have B6 := B0.trans (K2'.mono B0.size)
     have cc := Q
     obtain ⟨⟨m0, m1, m2, m3, m4, m5, m6, m7, m8, m9⟩, mf⟩ := cc
     have f9 := mf 9
     clear mf
     go_upto_region 12 with fail
     rw [← hw2']
     clear hw2' kp2 m0 m1 m2 m3 m4 m5 m6 m7 m8 m9 f9 Q hz hownZ
     have Q := Q2
     clear Q2
     obtain ⟨zz, hz3⟩ : ∃ zz : BxD, zz = { z with sd := N, aS := a1, cS := c1 } := ⟨_, rfl⟩
     rw [← hz3] at Q O NE3 hX
     clear hz3
     obtain ⟨W9, hW9⟩ := mk_ ((((((((((w2.setCell ⟨w.heap.size + 1, 0, none⟩ (.int .i64 zz.id)).setCell ⟨w.heap.size + 1, 1, none⟩ (.int .i64 zz.po)).setCell ⟨w.heap.size + 1, 2, none⟩ (.int .i64 zz.rg.ep)).setCell ⟨w.heap.size + 1, 3, none⟩ (.int .i64 zz.rg.ow)).setCell ⟨w.heap.size + 1, 4, none⟩ (.int .i64 zz.rg.pa)).setCell ⟨w.heap.size + 1, 5, none⟩ (.slice zz.aT zz.two.length zz.cT)).setCell ⟨w.heap.size + 1, 6, none⟩ (.slice zz.aN zz.net.length zz.cN)).setCell ⟨w.heap.size + 1, 7, none⟩ (.slice zz.aG zz.ga.length zz.cG)).setCell ⟨w.heap.size + 1, 8, none⟩ (.slice zz.aL zz.ln.length zz.cL)).setCell ⟨w.heap.size + 1, 9, none⟩ (.slice zz.aS zz.sd.length zz.cS))
     have ZZ : BxB W9 (w.heap.size + 1) zz := by rw [hW9]; exact Z.put zz
     have kp : ∀ k, k ≠ w.heap.size + 1 → W9.heap[k]? = w2.heap[k]? := fun k hk => by rw [hW9, Below.heap_setCell _ _ _ _ hk, Below.heap_setCell _ _ _ _ hk, Below.heap_setCell _ _ _ _ hk, Below.heap_setCell _ _ _ _ hk, Below.heap_setCell _ _ _ _ hk, Below.heap_setCell _ _ _ _ hk, Below.heap_setCell _ _ _ _ hk, Below.heap_setCell _ _ _ _ hk, Below.heap_setCell _ _ _ _ hk, Below.heap_setCell _ _ _ _ hk]
     have B9 : Below w.heap.size w W9 := by rw [hW9]; exact ((((((((((B6.setCell (p := ⟨w.heap.size + 1, 0, none⟩) (by show _ ≤ w.heap.size + 1; omega) _).setCell (p := ⟨w.heap.size + 1, 1, none⟩) (by show _ ≤ w.heap.size + 1; omega) _).setCell (p := ⟨w.heap.size + 1, 2, none⟩) (by show _ ≤ w.heap.size + 1; omega) _).setCell (p := ⟨w.heap.size + 1, 3, none⟩) (by show _ ≤ w.heap.size + 1; omega) _).setCell (p := ⟨w.heap.size + 1, 4, none⟩) (by show _ ≤ w.heap.size + 1; omega) _).setCell (p := ⟨w.heap.size + 1, 5, none⟩) (by show _ ≤ w.heap.size + 1; omega) _).setCell (p := ⟨w.heap.size + 1, 6, none⟩) (by show _ ≤ w.heap.size + 1; omega) _).setCell (p := ⟨w.heap.size + 1, 7, none⟩) (by show _ ≤ w.heap.size + 1; omega) _).setCell (p := ⟨w.heap.size + 1, 8, none⟩) (by show _ ≤ w.heap.size + 1; omega) _).setCell (p := ⟨w.heap.size + 1, 9, none⟩) (by show _ ≤ w.heap.size + 1; omega) _)
     have O9 : BxO w.heap.size W9 zz := (O.keep (fun g h1 h2 => kp g (by omega))).base (by omega)
     obtain ⟨⟨t0, t1, t2, t3, t4, t5, t6, t7, t8, t9⟩, tf⟩ := ZZ
     clear tf
     have cc := Z
     obtain ⟨⟨z0, z1, z2, z3, z4, z5, z6, z7, z8, z9⟩, zf⟩ := cc
     obtain ⟨e0, e1, e2, e3, e4, e5, e6, e7, e8, e9⟩ := ten zf
     clear zf
     have cc := Q
     obtain ⟨⟨q0, q1, q2, q3, q4, q5, q6, q7, q8, q9⟩, qf⟩ := cc
     clear qf
     go_wp2
     refine bodyPost_ret (v := bvx zz) (by simp [bvx, results, Try.results68, go_sem, *]) rfl ⟨zz, rfl, hX.out, by rw [← hW9]; exact O9, by rw [← hW9]; exact B9⟩
end Go.Proofs.Ytnpiljegdiconaa
