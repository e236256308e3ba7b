import Derived.Test.YtnpiljegdiconaaQKBxd18
namespace Go.Proofs.Ytnpiljegdiconaa
open Go.ChangeShapes Go.WideShapes Go.ChangeAt Go.RowKit
open Go.ChangeMaps (open_string shut_string)
set_option linter.unusedVariables false
set_option maxRecDepth 100000
theorem FView.takeN_ {X : Type} {enc : X → List Value} {w : World} {ad : Option Addr} {L : List X} (h : FView enc w ad L) (k : Nat) : FView enc w ad (L.take k) := by
 intro hp
 obtain ⟨b, off, e, hc⟩ := h (by rw [List.length_take] at hp; omega)
 refine ⟨b, off, e, fun j v hv => hc j v ?_⟩
 rw [← List.take_append_drop k L, fcells_app, List.getElem?_append_left (List.getElem?_eq_some_iff.1 hv).1]
 exact hv
theorem FView.dropN_ {X : Type} {enc : X → List Value} {n : Nat} (hn : ∀ x, (enc x).length = n) {w : World} {b : Nat} {L : List X} (h : FView enc w (some ⟨b, 0, none⟩) L) {k : Nat} (hk : k ≤ L.length) : FView enc w (some ⟨b, k * n, none⟩) (L.drop k) := by
 intro hp
 obtain ⟨b', off', e, hc⟩ := h (by rw [List.length_drop] at hp; omega)
 cases e
 refine ⟨b, k * n, rfl, fun j v hv => ?_⟩
 have hl : (fcells enc (L.take k)).length = k * n := by rw [fcells_len hn, List.length_take, Nat.min_eq_left hk]
 have := hc (k * n + j) v (by
  rw [← List.take_append_drop k L, fcells_app, List.getElem?_append_right (by omega), hl]
  rw [show k * n + j - k * n = j by omega]
  exact hv)
 simpa using this
theorem BxS.other {base q z : Nat} {w W W2 : World} {x : BxD} (h : BxS base q z w W x) {row : Option Nat} (gN : W.grownBy W2 row) (hr : ∀ b, row = some b → base ≤ b ∧ BxNe b x ∧ b ≠ q ∧ b ≠ z) : BxS base q z w W2 x := by
 refine ⟨⟨h.O.t.keep (fun g e => gN.block g (h.O.t.lt g e).2 (fun e2 => (hr g e2.symm).2.1.t g e rfl)), fun j hj => (h.O.l j hj).keep (fun g e => gN.block g ((h.O.l j hj).lt g e).2 (fun e2 => (hr g e2.symm).2.1.l j hj g e rfl)), h.O.n.keep (fun g e => gN.block g (h.O.n.lt g e).2 (fun e2 => (hr g e2.symm).2.1.n g e rfl)), h.O.g.keep (fun g e => gN.block g (h.O.g.lt g e).2 (fun e2 => (hr g e2.symm).2.1.g g e rfl)), h.O.i.keep (fun g e => gN.block g (h.O.i.lt g e).2 (fun e2 => (hr g e2.symm).2.1.i g e rfl)), h.O.s.keep (fun g e => gN.block g (h.O.s.lt g e).2 (fun e2 => (hr g e2.symm).2.1.s g e rfl)), h.O.ap⟩, h.A.keep (gN.block _ h.A.lt (fun e2 => (hr _ e2.symm).2.2.1 rfl)), h.NA, h.Z.keep (gN.block _ (zb_lt h.Z) (fun e2 => (hr _ e2.symm).2.2.2 rfl)), h.NZ, h.B.grown gN h.sz (fun k e => (hr k e).1), h.b0, h.bz, h.ne⟩
theorem BxS.turnX {base q z : Nat} {w W W2 : World} {x x3 : BxD} (h : BxS base q z w W x) (O3 : BxO base W2 x3) (B3 : Below base W W2) (P : PFr W W2 x x3) : BxB W2 q x ∧ BxS base q z w ((((((((((W2.setCell ⟨q, 0, none⟩ (.int .i64 x3.id)).setCell ⟨q, 1, none⟩ (.int .i64 x3.po)).setCell ⟨q, 2, none⟩ (.int .i64 x3.rg.ep)).setCell ⟨q, 3, none⟩ (.int .i64 x3.rg.ow)).setCell ⟨q, 4, none⟩ (.int .i64 x3.rg.pa)).setCell ⟨q, 5, none⟩ (.slice x3.aT x3.two.length x3.cT)).setCell ⟨q, 6, none⟩ (.slice x3.aN x3.net.length x3.cN)).setCell ⟨q, 7, none⟩ (.slice x3.aG x3.ga.length x3.cG)).setCell ⟨q, 8, none⟩ (.slice x3.aL x3.ln.length x3.cL)).setCell ⟨q, 9, none⟩ (.slice x3.aS x3.sd.length x3.cS)) x3 := by
 have hq := P.2 q h.A.lt h.NA
 have hz := P.2 z (zb_lt h.Z) h.NZ
 have A := h.A.keep hq.1
 have Z := h.Z.keep hz.1
 exact ⟨A, O3.keepQ hq.2 (fun g hg => heap_put10 W2 q g x3 hg), A.put x3, hq.2, Z.keep (heap_put10 W2 q z x3 h.ne), hz.2, below_put10 (q := q) x3 (h.B.trans B3) h.b0, h.b0, h.bz, h.ne⟩
theorem bxOk_less {b : Bx} (h : bxOk b = true) (k : Nat) : bxOk (setN b (b.net.take k ++ b.net.drop (k + 1))) = true := by
 obtain ⟨h1, h2, h3, h4, h5, h6, h7, h8, h9, h10⟩ := bxOk_is.1 h
 refine bxOk_is.2 ⟨h1, h2, h3, h4, h5, ?_, ?_, h8, h9, h10⟩
 ·
  rw [List.all_eq_true] at h6 ⊢
  intro v hv
  rcases List.mem_append.1 hv with e | e
  ·
   exact h6 v (List.mem_of_mem_take e)
  ·
   exact h6 v (List.mem_of_mem_drop e)
 ·
  show (b.net.take k ++ b.net.drop (k + 1)).length ≤ 20
  rw [List.length_append, List.length_take, List.length_drop]
  omega
theorem bxOk_wire {b : Bx} (h : bxOk b = true) {k : Nat} (hk : k < b.net.length) : 0 ≤ (b.net.getD k Wi.nil).fr ∧ (b.net.getD k Wi.nil).fr ≤ 1 := by
 obtain ⟨_, _, _, _, _, h6, _⟩ := bxOk_is.1 h
 rw [List.all_eq_true] at h6
 have e : b.net.getD k Wi.nil = b.net[k] := by simp [List.getD, hk]
 have := h6 (b.net.getD k Wi.nil) (by rw [e]; exact List.getElem_mem hk)
 unfold wiOk at this
 simp only [Bool.and_eq_true, decide_eq_true_eq] at this
 exact this.1
theorem PFr.pz {w W : World} {x x3 : BxD} {base : Nat} (P : PFr w W x x3) (O : BxO base w x) : PZ w W := ⟨P.1, fun z hz => (P.2 z hz.lt_ ⟨fun b e e2 => O.t.notZ hz (by decide) (by rw [← e2]; exact e), fun b e e2 => O.n.notZ hz (by decide) (by rw [← e2]; exact e), fun b e e2 => O.g.notZ hz (by decide) (by rw [← e2]; exact e), fun b e e2 => O.i.notZ hz (by decide) (by rw [← e2]; exact e), fun b e e2 => O.s.notZ hz (by decide) (by rw [← e2]; exact e), fun j hj b e e2 => (O.l j hj).notZ hz (by decide) (by rw [← e2]; exact e)⟩).1.trans hz⟩
set_option linter.unusedSimpArgs false in
set_option maxHeartbeats 16000000 in
theorem netS15 (x : BxD) (d : De) (w : World) (base : Nat) (hO : BxO base w x) (hbw : base ≤ w.heap.size) (hb : bxOk x.p = true) :
  Calls Try.prog 59 #[.agg #[.int .i64 x.id, .int .i64 x.po, .int .i64 x.rg.ep, .int .i64 x.rg.ow, .int .i64 x.rg.pa, .slice x.aT x.two.length x.cT, .slice x.aN x.net.length x.cN, .slice x.aG x.ga.length x.cG, .slice x.aL x.ln.length x.cL, .slice x.aS x.sd.length x.cS], .agg #[.int .i64 d.k, .int .i64 d.a, .int .i64 d.x.k, .int .i64 d.x.q, .int .i64 d.x.r, .int .i64 d.x.c, .int .i64 d.x.b, .int .i64 d.x.p, .int .i64 d.x.h, .bool d.x.up]] w fun e w' => ∃ x2 : BxD, ∃ c : Int, e = .returned (.tuple #[.agg #[.int .i64 x2.id, .int .i64 x2.po, .int .i64 x2.rg.ep, .int .i64 x2.rg.ow, .int .i64 x2.rg.pa, .slice x2.aT x2.two.length x2.cT, .slice x2.aN x2.net.length x2.cN, .slice x2.aG x2.ga.length x2.cG, .slice x2.aL x2.ln.length x2.cL, .slice x2.aS x2.sd.length x2.cS], .int .i64 c]) ∧ (x2.p, c) = netX x.p d ∧ BxO base w' x2 ∧ Below base w w' ∧ PZ w w' := by
 obtain ⟨y, hy⟩ := mk_ (((w.alloc (Obj.cells #[.int .i64 x.id, .int .i64 x.po, .int .i64 x.rg.ep, .int .i64 x.rg.ow, .int .i64 x.rg.pa, .slice x.aT x.two.length x.cT, .slice x.aN x.net.length x.cN, .slice x.aG x.ga.length x.cG, .slice x.aL x.ln.length x.cL, .slice x.aS x.sd.length x.cS] 79)).alloc (Obj.cells #[.int .i64 d.k, .int .i64 d.a, .int .i64 d.x.k, .int .i64 d.x.q, .int .i64 d.x.r, .int .i64 d.x.c, .int .i64 d.x.b, .int .i64 d.x.p, .int .i64 d.x.h, .bool d.x.up] 103)).alloc (Obj.cells #[.int .i64 0, .int .i64 0, .int .i64 0, .int .i64 0, .int .i64 0, .slice none 0 0, .slice none 0 0, .slice none 0 0, .slice none 0 0, .slice none 0 0] 79))
 obtain ⟨S, D, B0, ND⟩ := stepStartD x d w y hO hbw hy
 have PZ_ := PZ.of B0
 obtain ⟨hl2, hmi, hnl, _, _, _⟩ := bxOk_small hb
 have hbk := hb
 clear hb hO hmi hl2
 obtain ⟨R, hR⟩ := mk_ (netX x.p d)
 rw [← hR]
 replace hR : Hid _ := hR
 replace hbk : Hid _ := hbk
 obtain ⟨i1, hi1, hz10, hz11, hz12⟩ := info_parts wiInfo
 have hwn : IntKind.i64.wrap ((x.net.length : Int) - 1) = (x.net.length : Int) - 1 := by rw [IntKind.wrap_i64]; omega
 go_enter Try.func59, Try.ntmps59
 go_upto_region 1 with fail
 rw [← hy]
 clear hy
 have cc := S.A.at_
 obtain ⟨a0, a1, a2, a3, a4, a5, a6, a7, a8, a9⟩ := cc
 have c1 := D.c1
 go_wp2_with fail
 go_at_call 26
 clear a0 a1 a2 a3 a4 a5 a6 a7 a8 a9 c1
 refine (inB d.a 0 ((x.net.length : Int) - 1) y).mono ?_
 rintro e u9 ⟨rfl, hw_⟩
 rw [hw_]
 clear hw_ u9 hwn
 cases hI : decide (0 ≤ d.a ∧ d.a ≤ (x.net.length : Int) - 1)
 ·
  have hI2 := of_decide_eq_false hI
  have hX1 : Hid (d.a < 0 ∨ (x.p.net.length : Int) ≤ d.a) := by unfold Hid; have e9 : x.p.net.length = x.net.length := rfl; omega
  clear hI2
  obtain ⟨O9, B9⟩ := S.ret
  have P9 := S.pz PZ_ (by omega)
  have ZB := S.Z.box
  have cc := S.A.at_
  obtain ⟨a0, a1, a2, a3, a4, a5, a6, a7, a8, a9⟩ := cc
  obtain ⟨r0, r1, r2, r3, r4, r5, r6, r7, r8, r9, g0, g1, g2, g3, g4, g5, g6, g7, g8, g9⟩ := zten ZB
  clear S
  go_wp2
  refine bodyPost_ret (v := .tuple #[bvx x, .int .i64 2]) (by simp [bvx, results, Try.results59, go_sem, *]) rfl ⟨x, 2, rfl, by rw [hR.out]; unfold netX; rw [if_pos hX1.out], O9, B9, P9⟩
 ·
  have hI2 := of_decide_eq_true hI
  obtain ⟨k, hk⟩ : ∃ k : Nat, d.a = (k : Int) := ⟨d.a.toNat, by omega⟩
  have hkl : k < x.net.length := by omega
  have hX0 : Hid (¬ (d.a < 0 ∨ (x.p.net.length : Int) ≤ d.a)) := by unfold Hid; have e9 : x.p.net.length = x.net.length := rfl; omega
  clear hI2 hI
  obtain ⟨gN, hat, _, gl⟩ := S.O.n.blk (by omega)
  obtain ⟨v, hv⟩ : ∃ v, x.net.getD k Wi.nil = v := ⟨_, rfl⟩
  have E0 : WiAtO y gN (k * 12) v := by have h1 := S.O.n.view.2; rw [hat] at h1; have := wiAtO_of (h1.at_ wiEnc_len Wi.nil hkl); rw [hv] at this; simpa using this
  have hcn := S.O.n.capM
  replace hk : Hid _ := hk
  replace hat : Hid _ := hat
  replace hv : Hid _ := hv
  have cc := S.A.at_
  obtain ⟨a0, a1, a2, a3, a4, a5, a6, a7, a8, a9⟩ := cc
  rw [hat.out] at a6
  have c1 := D.c1
  rw [hk.out] at c1
  have cc := E0
  obtain ⟨v0, v1, v2, v3, v4, v5, v6, v7, v8, v9, v10, v11⟩ := cc
  go_upto_region 4 with fail
  clear v0 v1 v2 v3 v4 v5 v6 v7 v8 v9 v10 v11 a0 a1 a2 a3 a4 a5 a6 a7 a8 a9 c1 E0
  obtain ⟨u1, hu1⟩ := mk_ (y.alloc (Obj.cells #[.int .i64 v.fr, .bool v.ak, .int .i64 v.li, .int .i64 v.n, .int .i64 v.x.k, .int .i64 v.x.q, .int .i64 v.x.r, .int .i64 v.x.c, .int .i64 v.x.b, .int .i64 v.x.p, .int .i64 v.x.h, .bool v.x.up] 125))
  rw [← hu1]
  have kq : Below y.heap.size y u1 := by rw [hu1]; exact below_new _
  have We : WdAt u1 y.heap.size v := by rw [hu1]; constructor <;> simp [go_sem]
  have NN : BxNe y.heap.size x := S.O.ne (Nat.le_refl _)
  have nq := S.A.lt
  have nd := D.lt
  have nz := zb_lt S.Z
  clear hu1
  have S := S.later kq
  have PZ_ := PZ_.later kq
  have D := D.below kq D.lt
  obtain ⟨qn, hqn⟩ := mk_ y.heap.size
  rw [← hqn] at We NN nq nz nd gl ⊢
  clear hqn kq
  have c0 := D.c0
  by_cases h5 : d.k = 5
  ·
   have d5 : (d.k == 5) = true := by simpa using h5
   have cc := S.A.at_
   obtain ⟨a0, a1, a2, a3, a4, a5, a6, a7, a8, a9⟩ := cc
   go_upto_region 5 with fail
   clear a0 a1 a2 a3 a4 a5 a6 a7 a8 a9 c0 d5
   replace h5 : Hid _ := h5
   by_cases h20 : 20 ≤ x.net.length
   ·
    have d2 : decide ((20 : Int) ≤ (x.net.length : Int)) = true := decide_eq_true (by omega)
    obtain ⟨O9, B9⟩ := S.ret
    have P9 := S.pz PZ_ (by omega)
    have ZB := S.Z.box
    have cc := S.A.at_
    obtain ⟨a0, a1, a2, a3, a4, a5, a6, a7, a8, a9⟩ := cc
    obtain ⟨r0, r1, r2, r3, r4, r5, r6, r7, r8, r9, g0, g1, g2, g3, g4, g5, g6, g7, g8, g9⟩ := zten ZB
    clear S
    go_wp2
    refine bodyPost_ret (v := .tuple #[bvx x, .int .i64 4]) (by simp [bvx, results, Try.results59, go_sem, *]) rfl ⟨x, 4, rfl, by rw [hR.out]; unfold netX; rw [if_neg hX0.out, if_pos h5.out, if_pos (by show 20 ≤ x.net.length; omega)], O9, B9, P9⟩
   ·
    have d2 : decide ((20 : Int) ≤ (x.net.length : Int)) = false := decide_eq_false (by omega)
    have kx : Below u1.heap.size u1 (u1.alloc (Obj.cells #[.int .i64 v.fr, .bool v.ak, .int .i64 v.li, .int .i64 v.n, .int .i64 v.x.k, .int .i64 v.x.q, .int .i64 v.x.r, .int .i64 v.x.c, .int .i64 v.x.b, .int .i64 v.x.p, .int .i64 v.x.h, .bool v.x.up] 125)) := below_new _
    have V1 : FView wiEnc (u1.alloc (Obj.cells #[.int .i64 v.fr, .bool v.ak, .int .i64 v.li, .int .i64 v.n, .int .i64 v.x.k, .int .i64 v.x.q, .int .i64 v.x.r, .int .i64 v.x.c, .int .i64 v.x.b, .int .i64 v.x.p, .int .i64 v.x.h, .bool v.x.up] 125)) (some ⟨u1.heap.size, 0, none⟩) [v] := FView.oneW u1 _ v
    have Sx := S.later kx
    have PZx := PZ_.later kx
    have szx := Sx.sz
    have cc := S.A.at_
    obtain ⟨a0, a1, a2, a3, a4, a5, a6, a7, a8, a9⟩ := cc
    have cc := We
    obtain ⟨e0, e1, e2, e3, e4, e5, e6, e7, e8, e9, e10, e11⟩ := cc
    go_upto_region 7 with fail
    go_wp2_with (first | (at_builtin; refine fappL wiEnc_len wiEnc_ones rfl _ _ 75 rfl base 125 i1 (.agg #[.int .i64 0, .bool false, .int .i64 0, .int .i64 0, .int .i64 0, .int .i64 0, .int .i64 0, .int .i64 0, .int .i64 0, .int .i64 0, .int .i64 0, .bool false]) 96 Try.underlying75 hi1 hz10 hz11 hz12 rfl (by decide) (by decide) _ x.net rfl Sx.O.n (some ⟨u1.heap.size, 0, none⟩) 1 [v] rfl (fun e => by cases e) V1 ?z0 ?z1 ?_) | go_in)
    case z0 => simp; omega
    case z1 => exact szx
    intro vN v2 oN gN hob
    replace oN : FOwn wiEnc 12 125 base v2 vN (x.net ++ [v]) := oN
    obtain ⟨N_, hN_⟩ := mk_ (x.net ++ [v])
    rw [← hN_] at oN
    replace hN_ : Hid _ := hN_
    clear a0 a1 a2 a3 a4 a5 a6 a7 a8 a9 e0 e1 e2 e3 e4 e5 e6 e7 e8 e9 e10 e11
    have We := (We.below kx We.lt)
    have PZ_ := PZx.grown Sx.O.n (by decide) gN
    obtain ⟨aN, cN, rfl, A2, S2, hno⟩ := Sx.addN N_ vN oN gN (hob.imp id (fun e => e.trans (by simp)))
    clear gN hob V1 Sx S oN hno kx d2
    have cc := A2
    obtain ⟨⟨a0, a1, a2, a3, a4, a5, a6, a7, a8, a9⟩, af⟩ := cc
    have f6 := af 6
    clear af
    go_upto_region 8 with fail
    clear a0 a1 a2 a3 a4 a5 a6 a7 a8 a9 f6 A2
    obtain ⟨v3, hv3⟩ := mk_ (v2.setCell ⟨w.heap.size, 6, none⟩ (.slice aN N_.length cN))
    rw [← hv3] at S2 ⊢
    have PZ_ := PZ_.keep (n := w.heap.size) (W2 := v3) (Nat.le_refl _) (fun g_ hg => by rw [hv3]; exact Below.heap_setCell _ _ _ _ hg) (by rw [hv3]; simp)
    clear hv3
    obtain ⟨z, hz⟩ : ∃ z : BxD, z = { x with net := N_, aN := aN, cN := cN } := ⟨_, rfl⟩
    rw [← hz] at S2
    have hP : Hid ((z.p, (0 : Int)) = R) := by
     unfold Hid
     rw [hR.out]; unfold netX
     rw [if_neg hX0.out, if_pos h5.out, if_neg (by show ¬ 20 ≤ x.net.length; exact h20), hk.out, hz]
     show _ = (setN x.p (x.net ++ [x.net.getD k Wi.nil]), (0 : Int))
     rw [hv.out, ← hN_.out]
     rfl
    clear hz
    have S := S2
    clear S2 We h20
    obtain ⟨O9, B9⟩ := S.ret
    have P9 := S.pz PZ_ (by omega)
    have ZB := S.Z.box
    have cc := S.A.at_
    obtain ⟨a0, a1, a2, a3, a4, a5, a6, a7, a8, a9⟩ := cc
    obtain ⟨r0, r1, r2, r3, r4, r5, r6, r7, r8, r9, g0, g1, g2, g3, g4, g5, g6, g7, g8, g9⟩ := zten ZB
    clear S
    go_wp2
    refine bodyPost_ret (v := .tuple #[bvx z, .int .i64 0]) (by simp [bvx, results, Try.results59, go_sem, *]) rfl ⟨z, 0, rfl, by exact hP.out, O9, B9, P9⟩
  ·
   have d5 : (d.k == 5) = false := by simpa using h5
   replace h5 : Hid (¬ d.k = 5) := h5
   go_upto_region 9 with fail
   clear c0 d5
   have NEA : ∀ q, u1.heap.size ≤ q → BxNe q x := fun q h => S.O.ne h
   have WeL := We.lt
   have DL := D.lt
   have lq := S.A.lt
   have lz := zb_lt S.Z
   have ls := S.sz
   obtain ⟨L1, hL1⟩ := mk_ (x.net.take k)
   obtain ⟨L2, hL2⟩ := mk_ (x.net.drop (k + 1))
   have hl1 : L1.length = k := by rw [hL1, List.length_take]; omega
   have hl2_ : L2.length = x.net.length - (k + 1) := by rw [hL2, List.length_drop]
   have lb1 : L1.length ≤ 20 := by omega
   have lb2 : L2.length ≤ 20 := by omega
   obtain ⟨ad2, hA2⟩ : ∃ a : Option Addr, Hid ((if x.cN = k + 1 then some ⟨gN, 0, none⟩ else some ⟨gN, (k + 1) * 12, none⟩) = a) := ⟨_, rfl⟩
   have hAn : ad2 ≠ none := by rw [← hA2.out]; split <;> simp
   have hvD : ∀ Y, BxS base w.heap.size (w.heap.size + 1 + 1) w Y x → FView wiEnc Y ad2 L2 := fun Y hY => by
    rw [← hA2.out, hL2]
    by_cases e : x.cN = k + 1
    ·
     rw [show x.net.drop (k + 1) = [] from List.drop_eq_nil_of_le (by omega)]
     exact FView.nil
    ·
     rw [if_neg e]
     have h1 := hY.O.n.view.2
     rw [hat.out] at h1
     exact h1.dropN_ wiEnc_len (by omega)
   have hvT : ∀ Y, BxS base w.heap.size (w.heap.size + 1 + 1) w Y x → FView wiEnc Y (some ⟨gN, 0, none⟩) L1 := fun Y hY => by
    have h1 := hY.O.n.view.2
    rw [hat.out] at h1
    rw [hL1]
    exact h1.takeN_ k
   replace hL1 : Hid _ := hL1
   replace hL2 : Hid _ := hL2
   replace hl1 : Hid _ := hl1
   replace hl2_ : Hid _ := hl2_
   have w3 : IntKind.i64.wrap ((k : Int) + 1) = (k : Int) + 1 := by rw [IntKind.wrap_i64]; omega
   have k3a : 0 ≤ (k : Int) + 1 := by omega
   have k3b : k + 1 ≤ x.net.length := by omega
   have k3c : (k : Int) + 1 ≤ (x.net.length : Int) := by omega
   refine wp_region_held (S := fun Y => DeAt Y (w.heap.size + 1) d) (by kernel_rfl) ?_
   change wpAnyH _ _ _ _ _ _ _ _ (World.drew _)
   have kd : Below u1.heap.size u1 u1.drew := (Below.refl _ _).drew
   obtain ⟨v0, hv0⟩ := mk_ u1.drew
   rw [← hv0] at kd ⊢
   clear hv0
   have S := S.later kd
   have PZ_ := PZ_.later kd
   have D := D.below kd D.lt
   have We := We.below kd We.lt
   have zv0 := kd.size
   clear kd
   refine tw 1 38 (.pointer (some ⟨w.heap.size, 6, none⟩)) ?_
   refine tw 3 40 (.pointer (some ⟨w.heap.size + 1, 1, none⟩)) ?_
   refine tw 4 41 (.int .i64 (k : Int)) ?_ (hy := by intro Y hSw; have X1 := hSw.c1; rw [hk.out] at X1; go_simp)
   refine tw 7 44 (.pointer (some ⟨w.heap.size, 6, none⟩)) ?_
   refine tw 9 46 (.pointer (some ⟨w.heap.size + 1, 1, none⟩)) ?_
   refine tw 10 47 (.int .i64 (k : Int)) ?_ (hy := by intro Y hSw; have X1 := hSw.c1; rw [hk.out] at X1; go_simp)
   refine tw 11 48 (.int .i64 ((k : Int) + 1)) ?_
   have We0 : qn < u1.heap.size ∧ w.heap.size + 1 < u1.heap.size := ⟨WeL, DL⟩
   refine wpAnyH_all (rs := [0, 2, 8]) (by kernel_rfl) (by simp) ?_
   intro i hi; rcases (by simpa using hi : i = 0 ∨ i = 2 ∨ i = 8) with rfl | rfl | rfl
   ·
    refine wpOp_step rfl (fun Kz hKz => ?_)
    rw [if_pos (by kernel_rfl)]
    go_simp
    obtain ⟨k0w, hU⟩ := mk_ (v0.alloc (Obj.cells #[] 125))
    have E : FOwn wiEnc 12 125 u1.heap.size k0w (.slice (some ⟨v0.heap.size, 0, none⟩) 0 0) ([] : List Wi) := by rw [hU]; exact (FOwn.empty v0).base (by omega)
    have kq : Below v0.heap.size v0 k0w := by rw [hU]; exact below_new _
    have bE : ∀ b, (Value.slice (some ⟨v0.heap.size, 0, none⟩) 0 0).ownBlock = some b → u1.heap.size ≤ b := fun b e => (E.lt b e).1
    rw [← hU]
    clear hU
    obtain ⟨qe, hqe⟩ := mk_ v0.heap.size
    rw [← hqe] at E bE ⊢
    clear hqe
    have S := S.later kq
    have PZ_ := PZ_.later kq
    have D := D.below kq D.lt
    have We := We.below kq We.lt
    have zk0w := kq.size
    clear kq
    refine hKz _ _ ⟨D, ?_⟩
    clear hKz Kz hi
    refine wpAnyH_all (rs := [2, 8]) (by kernel_rfl) (by simp) ?_
    intro i hi; rcases (by simpa using hi : i = 2 ∨ i = 8) with rfl | rfl
    ·
     refine wpOp_step rfl (fun Kz hKz => ?_)
     rw [if_pos (by kernel_rfl)]
     have cc := S.A.at_
     obtain ⟨a0, a1, a2, a3, a4, a5, a6, a7, a8, a9⟩ := cc
     rw [hat.out] at a6
     go_simp
     clear a0 a1 a2 a3 a4 a5 a6 a7 a8 a9
     refine hKz _ _ ⟨D, ?_⟩
     clear hKz Kz hi
     refine tw 5 42 (.slice (some ⟨gN, 0, none⟩) k x.cN) ?_ (hy := by intro Y hSw; go_simp; try omega)
     refine wpAnyH_all (rs := [6, 8]) (by kernel_rfl) (by simp) ?_
     intro i hi; rcases (by simpa using hi : i = 6 ∨ i = 8) with rfl | rfl
     focus
      refine wpOp_step rfl (fun Kz hKz => ?_)
      rw [if_pos (by kernel_rfl)]
      refine fapp wiEnc_len wiEnc_ones 43 _ _ 75 rfl rfl u1.heap.size 125 i1 (.agg #[.int .i64 0, .bool false, .int .i64 0, .int .i64 0, .int .i64 0, .int .i64 0, .int .i64 0, .int .i64 0, .int .i64 0, .int .i64 0, .int .i64 0, .bool false]) 96 Try.underlying75 hi1 hz10 hz11 hz12 rfl (by decide) (by decide) (.slice (some ⟨qe, 0, none⟩) 0 0) ([] : List Wi) rfl E (some ⟨gN, 0, none⟩) x.cN L1 (by rw [hl1.out]; rfl) (fun e => by cases e) (hvT _ S) (by first | omega | (simp; omega)) (by omega) ?_
      intro vE k1w E_ gN_ _
      replace E_ : FOwn wiEnc 12 125 u1.heap.size k1w vE L1 := E_
      have hr : ∀ b, (Value.ownBlock (.slice (some ⟨qe, 0, none⟩) 0 0)) = some b → base ≤ b ∧ BxNe b x ∧ b ≠ w.heap.size ∧ b ≠ w.heap.size + 1 + 1 ∧ b ≠ w.heap.size + 1 ∧ b ≠ qn := fun b e => by have h := bE b e; have lw := We0; exact ⟨by omega, NEA b h, by omega, by omega, by omega, by omega⟩
      have PZ_ := PZ_.grown E (by decide) gN_
      have S := S.other gN_ (fun b e => ⟨(hr b e).1, (hr b e).2.1, (hr b e).2.2.1, (hr b e).2.2.2.1⟩)
      have D := D.keep (gN_.block _ D.lt (fun e => (hr _ e.symm).2.2.2.2.1 rfl))
      have We := We.keep (gN_.block _ We.lt (fun e => (hr _ e.symm).2.2.2.2.2 rfl))
      have zk1w := gN_.size
      have bE2 : ∀ b, (Value.ownBlock vE) = some b → u1.heap.size ≤ b := fun b e => (E_.lt b e).1
      clear E bE hr gN_
      have E := E_
      have bE := bE2
      clear E_ bE2
      simp only [List.set_cons_zero, List.set_cons_succ]
      refine hKz _ _ ⟨D, ?_⟩
      clear hKz Kz hi
      refine w1 8 fun Kz hKz => ?_
      have cc := S.A.at_
      obtain ⟨a0, a1, a2, a3, a4, a5, a6, a7, a8, a9⟩ := cc
      rw [hat.out] at a6
      go_simp
      clear a0 a1 a2 a3 a4 a5 a6 a7 a8 a9
      refine hKz _ _ ⟨D, ?_⟩
      clear hKz Kz
      refine tw 12 49 (.slice ad2 (x.net.length - (k + 1)) (x.cN - (k + 1))) ?_ (hy := by intro Y hSw; go_simp; rw [hA2.out])
     rotate_left
     focus
      refine wpOp_step rfl (fun Kz hKz => ?_)
      rw [if_pos (by kernel_rfl)]
      have cc := S.A.at_
      obtain ⟨a0, a1, a2, a3, a4, a5, a6, a7, a8, a9⟩ := cc
      rw [hat.out] at a6
      go_simp
      clear a0 a1 a2 a3 a4 a5 a6 a7 a8 a9
      refine hKz _ _ ⟨D, ?_⟩
      clear hKz Kz hi
      refine tw 12 49 (.slice ad2 (x.net.length - (k + 1)) (x.cN - (k + 1))) ?_ (hy := by intro Y hSw; go_simp; rw [hA2.out])
      refine w1 6 fun Kz hKz => ?_
      refine fapp wiEnc_len wiEnc_ones 43 _ _ 75 rfl rfl u1.heap.size 125 i1 (.agg #[.int .i64 0, .bool false, .int .i64 0, .int .i64 0, .int .i64 0, .int .i64 0, .int .i64 0, .int .i64 0, .int .i64 0, .int .i64 0, .int .i64 0, .bool false]) 96 Try.underlying75 hi1 hz10 hz11 hz12 rfl (by decide) (by decide) (.slice (some ⟨qe, 0, none⟩) 0 0) ([] : List Wi) rfl E (some ⟨gN, 0, none⟩) x.cN L1 (by rw [hl1.out]; rfl) (fun e => by cases e) (hvT _ S) (by first | omega | (simp; omega)) (by omega) ?_
      intro vE k1w E_ gN_ _
      replace E_ : FOwn wiEnc 12 125 u1.heap.size k1w vE L1 := E_
      have hr : ∀ b, (Value.ownBlock (.slice (some ⟨qe, 0, none⟩) 0 0)) = some b → base ≤ b ∧ BxNe b x ∧ b ≠ w.heap.size ∧ b ≠ w.heap.size + 1 + 1 ∧ b ≠ w.heap.size + 1 ∧ b ≠ qn := fun b e => by have h := bE b e; have lw := We0; exact ⟨by omega, NEA b h, by omega, by omega, by omega, by omega⟩
      have PZ_ := PZ_.grown E (by decide) gN_
      have S := S.other gN_ (fun b e => ⟨(hr b e).1, (hr b e).2.1, (hr b e).2.2.1, (hr b e).2.2.2.1⟩)
      have D := D.keep (gN_.block _ D.lt (fun e => (hr _ e.symm).2.2.2.2.1 rfl))
      have We := We.keep (gN_.block _ We.lt (fun e => (hr _ e.symm).2.2.2.2.2 rfl))
      have zk1w := gN_.size
      have bE2 : ∀ b, (Value.ownBlock vE) = some b → u1.heap.size ≤ b := fun b e => (E_.lt b e).1
      clear E bE hr gN_
      have E := E_
      have bE := bE2
      clear E_ bE2
      simp only [List.set_cons_zero, List.set_cons_succ]
      refine hKz _ _ ⟨D, ?_⟩
      clear hKz Kz
     rotate_left
     all_goals
      refine w1 13 fun Kz hKz => ?_
      refine fapp wiEnc_len wiEnc_ones 50 _ _ 75 rfl rfl u1.heap.size 125 i1 (.agg #[.int .i64 0, .bool false, .int .i64 0, .int .i64 0, .int .i64 0, .int .i64 0, .int .i64 0, .int .i64 0, .int .i64 0, .int .i64 0, .int .i64 0, .bool false]) 96 Try.underlying75 hi1 hz10 hz11 hz12 rfl (by decide) (by decide) vE L1 rfl E ad2 (x.cN - (k + 1)) L2 (by rw [hl2_.out]; rfl) (fun e => absurd e hAn) (hvD _ S) (by first | omega | (simp; omega)) (by omega) ?_
      intro vN k2w oN_ gN_ _
      replace oN_ : FOwn wiEnc 12 125 u1.heap.size k2w vN (L1 ++ L2) := oN_
      have hr : ∀ b, (Value.ownBlock vE) = some b → base ≤ b ∧ BxNe b x ∧ b ≠ w.heap.size ∧ b ≠ w.heap.size + 1 + 1 ∧ b ≠ w.heap.size + 1 ∧ b ≠ qn := fun b e => by have h := bE b e; have lw := We0; exact ⟨by omega, NEA b h, by omega, by omega, by omega, by omega⟩
      have PZ_ := PZ_.grown E (by decide) gN_
      have S := S.other gN_ (fun b e => ⟨(hr b e).1, (hr b e).2.1, (hr b e).2.2.1, (hr b e).2.2.2.1⟩)
      have D := D.keep (gN_.block _ D.lt (fun e => (hr _ e.symm).2.2.2.2.1 rfl))
      have We := We.keep (gN_.block _ We.lt (fun e => (hr _ e.symm).2.2.2.2.2 rfl))
      have zk2w := gN_.size
      have bE2 : ∀ b, (Value.ownBlock vN) = some b → u1.heap.size ≤ b := fun b e => (oN_.lt b e).1
      clear E bE hr gN_
      have oN := oN_
      have bE := bE2
      clear oN_ bE2
      simp only [List.set_cons_zero, List.set_cons_succ]
      refine hKz _ _ ⟨D, ?_⟩
      clear hKz Kz
      refine tw 14 51 (.pointer (some ⟨w.heap.size, 6, none⟩)) ?_
      obtain ⟨N_, hN_⟩ := mk_ (L1 ++ L2)
      rw [← hN_] at oN
      replace hN_ : Hid _ := hN_
      obtain ⟨aN, cN, rfl⟩ := oN.open_
      obtain ⟨A2, S2⟩ := S.putN N_ aN cN (oN.base ls) (fun _ _ _ => rfl) S.B (fun b e => ⟨by have := bE b e; omega, by have := bE b e; omega⟩)
      refine w1 15 fun Kz hKz => ?_
      have cc := A2
      obtain ⟨⟨a0, a1, a2, a3, a4, a5, a6, a7, a8, a9⟩, qf⟩ := cc
      have f6 := qf 6
      go_simp
      clear a0 a1 a2 a3 a4 a5 a6 a7 a8 a9 qf f6 A2
      obtain ⟨v3, hv3⟩ := mk_ (k2w.setCell ⟨w.heap.size, 6, none⟩ (.slice aN N_.length cN))
      rw [← hv3] at S2 ⊢
      have PZ_ := PZ_.keep (n := w.heap.size) (W2 := v3) (Nat.le_refl _) (fun g_ hg => by rw [hv3]; exact Below.heap_setCell _ _ _ _ hg) (by rw [hv3]; simp)
      have kp : ∀ g_, g_ ≠ w.heap.size → v3.heap[g_]? = k2w.heap[g_]? := fun g_ hg => by rw [hv3]; exact Below.heap_setCell _ _ _ _ hg
      have D := D.keep (kp _ (by omega))
      have We := We.keep (kp _ (by omega))
      refine hKz _ _ ⟨D, ?_⟩
      clear hKz Kz hv3 kp S oN bE
      refine wpAnyH_done (by kernel_rfl) ?_ _
      have S := S2
      clear S2
      obtain ⟨z, hz⟩ : ∃ z : BxD, z = { x with net := N_, aN := aN, cN := cN } := ⟨_, rfl⟩
      rw [← hz] at S
      have hP : Hid (z.p = setN x.p (x.net.take k ++ x.net.drop (k + 1))) := by unfold Hid; rw [hz, ← hL1.out, ← hL2.out, ← hN_.out]; rfl
      clear hz hN_
      have c0 := D.c0
      by_cases h3 : d.k = 3
      ·
       have d3 : (d.k == 3) = true := by simpa using h3
       go_upto_region 11 with fail
       clear c0 d3
       replace h3 : Hid _ := h3
       have cc := S.A.at_
       obtain ⟨a0, a1, a2, a3, a4, a5, a6, a7, a8, a9⟩ := cc
       have cc := We
       obtain ⟨e0, e1, e2, e3, e4, e5, e6, e7, e8, e9, e10, e11⟩ := cc
       go_wp2_with fail
       go_at_call 70
       clear a0 a1 a2 a3 a4 a5 a6 a7 a8 a9 e0 e1 e2 e3 e4 e5 e6 e7 e8 e9 e10 e11
       have hbz : bxOk z.p = true := by rw [hP.out]; exact bxOk_less hbk.out k
       have hfr : 0 ≤ v.fr ∧ v.fr ≤ 1 := by have h := bxOk_wire hbk.out (k := k) hkl; rw [show x.p.net = x.net from rfl, hv.out] at h; exact h
       refine (heardS z v v3 base S.O S.sz hbz hfr).mono ?_
       rintro e u9 ⟨x3, rfl, p3, O3, B3, P3⟩
       have PZ_ := PZ_.trans (P3.pz S.O)
       obtain ⟨A9, S9⟩ := S.turnX O3 B3 P3
       clear hbz hfr O3 B3 P3 S
       have cc := A9
       obtain ⟨⟨a0, a1, a2, a3, a4, a5, a6, a7, a8, a9⟩, af⟩ := cc
       obtain ⟨f0, f1, f2, f3, f4, f5, f6, f7, f8, f9⟩ := ten af
       clear af
       go_upto_region 12 with fail
       clear a0 a1 a2 a3 a4 a5 a6 a7 a8 a9 f0 f1 f2 f3 f4 f5 f6 f7 f8 f9 A9
       obtain ⟨v9, hv9⟩ := mk_ ((((((((((u9.setCell ⟨w.heap.size, 0, none⟩ (.int .i64 x3.id)).setCell ⟨w.heap.size, 1, none⟩ (.int .i64 x3.po)).setCell ⟨w.heap.size, 2, none⟩ (.int .i64 x3.rg.ep)).setCell ⟨w.heap.size, 3, none⟩ (.int .i64 x3.rg.ow)).setCell ⟨w.heap.size, 4, none⟩ (.int .i64 x3.rg.pa)).setCell ⟨w.heap.size, 5, none⟩ (.slice x3.aT x3.two.length x3.cT)).setCell ⟨w.heap.size, 6, none⟩ (.slice x3.aN x3.net.length x3.cN)).setCell ⟨w.heap.size, 7, none⟩ (.slice x3.aG x3.ga.length x3.cG)).setCell ⟨w.heap.size, 8, none⟩ (.slice x3.aL x3.ln.length x3.cL)).setCell ⟨w.heap.size, 9, none⟩ (.slice x3.aS x3.sd.length x3.cS))
       rw [← hv9] at S9 ⊢
       have PZ_ := PZ_.keep (n := w.heap.size) (W2 := v9) (Nat.le_refl _) (fun g_ hg => by rw [hv9]; exact heap_put10 _ _ g_ _ hg) (by rw [hv9]; simp)
       clear hv9
       have S := S9
       clear S9
       have hP3 : Hid ((x3.p, (0 : Int)) = R) := by
        unfold Hid
        rw [hR.out]; unfold netX
        rw [if_neg hX0.out, if_neg h5.out, if_pos h3.out, hk.out, p3, hP.out]
        show _ = (heardX (setN x.p (x.net.take k ++ x.net.drop (k + 1))) (x.net.getD k Wi.nil), (0 : Int))
        rw [hv.out]
       clear p3
       obtain ⟨O9, B9⟩ := S.ret
       have P9 := S.pz PZ_ (by omega)
       have ZB := S.Z.box
       have cc := S.A.at_
       obtain ⟨a0, a1, a2, a3, a4, a5, a6, a7, a8, a9⟩ := cc
       obtain ⟨r0, r1, r2, r3, r4, r5, r6, r7, r8, r9, g0, g1, g2, g3, g4, g5, g6, g7, g8, g9⟩ := zten ZB
       clear S
       go_wp2
       refine bodyPost_ret (v := .tuple #[bvx x3, .int .i64 0]) (by simp [bvx, results, Try.results59, go_sem, *]) rfl ⟨x3, 0, rfl, by exact hP3.out, O9, B9, P9⟩
      ·
       have d3 : (d.k == 3) = false := by simpa using h3
       replace h3 : Hid (¬ d.k = 3) := h3
       have hP3 : Hid ((z.p, (0 : Int)) = R) := by
        unfold Hid
        rw [hR.out]; unfold netX
        rw [if_neg hX0.out, if_neg h5.out, if_neg h3.out, hk.out, hP.out]
        rfl
       obtain ⟨O9, B9⟩ := S.ret
       have P9 := S.pz PZ_ (by omega)
       have ZB := S.Z.box
       have cc := S.A.at_
       obtain ⟨a0, a1, a2, a3, a4, a5, a6, a7, a8, a9⟩ := cc
       obtain ⟨r0, r1, r2, r3, r4, r5, r6, r7, r8, r9, g0, g1, g2, g3, g4, g5, g6, g7, g8, g9⟩ := zten ZB
       clear S
       go_wp2
       refine bodyPost_ret (v := .tuple #[bvx z, .int .i64 0]) (by simp [bvx, results, Try.results59, go_sem, *]) rfl ⟨z, 0, rfl, by exact hP3.out, O9, B9, P9⟩
    ·
     refine wpOp_step rfl (fun Kz hKz => ?_)
     rw [if_pos (by kernel_rfl)]
     have cc := S.A.at_
     obtain ⟨a0, a1, a2, a3, a4, a5, a6, a7, a8, a9⟩ := cc
     rw [hat.out] at a6
     go_simp
     clear a0 a1 a2 a3 a4 a5 a6 a7 a8 a9
     refine hKz _ _ ⟨D, ?_⟩
     clear hKz Kz hi
     refine tw 12 49 (.slice ad2 (x.net.length - (k + 1)) (x.cN - (k + 1))) ?_ (hy := by intro Y hSw; go_simp; rw [hA2.out])
     refine w1 2 fun Kz hKz => ?_
     have cc := S.A.at_
     obtain ⟨a0, a1, a2, a3, a4, a5, a6, a7, a8, a9⟩ := cc
     rw [hat.out] at a6
     go_simp
     clear a0 a1 a2 a3 a4 a5 a6 a7 a8 a9
     refine hKz _ _ ⟨D, ?_⟩
     clear hKz Kz
     refine tw 5 42 (.slice (some ⟨gN, 0, none⟩) k x.cN) ?_ (hy := by intro Y hSw; go_simp; try omega)
     refine w1 6 fun Kz hKz => ?_
     refine fapp wiEnc_len wiEnc_ones 43 _ _ 75 rfl rfl u1.heap.size 125 i1 (.agg #[.int .i64 0, .bool false, .int .i64 0, .int .i64 0, .int .i64 0, .int .i64 0, .int .i64 0, .int .i64 0, .int .i64 0, .int .i64 0, .int .i64 0, .bool false]) 96 Try.underlying75 hi1 hz10 hz11 hz12 rfl (by decide) (by decide) (.slice (some ⟨qe, 0, none⟩) 0 0) ([] : List Wi) rfl E (some ⟨gN, 0, none⟩) x.cN L1 (by rw [hl1.out]; rfl) (fun e => by cases e) (hvT _ S) (by first | omega | (simp; omega)) (by omega) ?_
     intro vE k1w E_ gN_ _
     replace E_ : FOwn wiEnc 12 125 u1.heap.size k1w vE L1 := E_
     have hr : ∀ b, (Value.ownBlock (.slice (some ⟨qe, 0, none⟩) 0 0)) = some b → base ≤ b ∧ BxNe b x ∧ b ≠ w.heap.size ∧ b ≠ w.heap.size + 1 + 1 ∧ b ≠ w.heap.size + 1 ∧ b ≠ qn := fun b e => by have h := bE b e; have lw := We0; exact ⟨by omega, NEA b h, by omega, by omega, by omega, by omega⟩
     have PZ_ := PZ_.grown E (by decide) gN_
     have S := S.other gN_ (fun b e => ⟨(hr b e).1, (hr b e).2.1, (hr b e).2.2.1, (hr b e).2.2.2.1⟩)
     have D := D.keep (gN_.block _ D.lt (fun e => (hr _ e.symm).2.2.2.2.1 rfl))
     have We := We.keep (gN_.block _ We.lt (fun e => (hr _ e.symm).2.2.2.2.2 rfl))
     have zk1w := gN_.size
     have bE2 : ∀ b, (Value.ownBlock vE) = some b → u1.heap.size ≤ b := fun b e => (E_.lt b e).1
     clear E bE hr gN_
     have E := E_
     have bE := bE2
     clear E_ bE2
     simp only [List.set_cons_zero, List.set_cons_succ]
     refine hKz _ _ ⟨D, ?_⟩
     clear hKz Kz
     refine w1 13 fun Kz hKz => ?_
     refine fapp wiEnc_len wiEnc_ones 50 _ _ 75 rfl rfl u1.heap.size 125 i1 (.agg #[.int .i64 0, .bool false, .int .i64 0, .int .i64 0, .int .i64 0, .int .i64 0, .int .i64 0, .int .i64 0, .int .i64 0, .int .i64 0, .int .i64 0, .bool false]) 96 Try.underlying75 hi1 hz10 hz11 hz12 rfl (by decide) (by decide) vE L1 rfl E ad2 (x.cN - (k + 1)) L2 (by rw [hl2_.out]; rfl) (fun e => absurd e hAn) (hvD _ S) (by first | omega | (simp; omega)) (by omega) ?_
     intro vN k2w oN_ gN_ _
     replace oN_ : FOwn wiEnc 12 125 u1.heap.size k2w vN (L1 ++ L2) := oN_
     have hr : ∀ b, (Value.ownBlock vE) = some b → base ≤ b ∧ BxNe b x ∧ b ≠ w.heap.size ∧ b ≠ w.heap.size + 1 + 1 ∧ b ≠ w.heap.size + 1 ∧ b ≠ qn := fun b e => by have h := bE b e; have lw := We0; exact ⟨by omega, NEA b h, by omega, by omega, by omega, by omega⟩
     have PZ_ := PZ_.grown E (by decide) gN_
     have S := S.other gN_ (fun b e => ⟨(hr b e).1, (hr b e).2.1, (hr b e).2.2.1, (hr b e).2.2.2.1⟩)
     have D := D.keep (gN_.block _ D.lt (fun e => (hr _ e.symm).2.2.2.2.1 rfl))
     have We := We.keep (gN_.block _ We.lt (fun e => (hr _ e.symm).2.2.2.2.2 rfl))
     have zk2w := gN_.size
     have bE2 : ∀ b, (Value.ownBlock vN) = some b → u1.heap.size ≤ b := fun b e => (oN_.lt b e).1
     clear E bE hr gN_
     have oN := oN_
     have bE := bE2
     clear oN_ bE2
     simp only [List.set_cons_zero, List.set_cons_succ]
     refine hKz _ _ ⟨D, ?_⟩
     clear hKz Kz
     refine tw 14 51 (.pointer (some ⟨w.heap.size, 6, none⟩)) ?_
     obtain ⟨N_, hN_⟩ := mk_ (L1 ++ L2)
     rw [← hN_] at oN
     replace hN_ : Hid _ := hN_
     obtain ⟨aN, cN, rfl⟩ := oN.open_
     obtain ⟨A2, S2⟩ := S.putN N_ aN cN (oN.base ls) (fun _ _ _ => rfl) S.B (fun b e => ⟨by have := bE b e; omega, by have := bE b e; omega⟩)
     refine w1 15 fun Kz hKz => ?_
     have cc := A2
     obtain ⟨⟨a0, a1, a2, a3, a4, a5, a6, a7, a8, a9⟩, qf⟩ := cc
     have f6 := qf 6
     go_simp
     clear a0 a1 a2 a3 a4 a5 a6 a7 a8 a9 qf f6 A2
     obtain ⟨v3, hv3⟩ := mk_ (k2w.setCell ⟨w.heap.size, 6, none⟩ (.slice aN N_.length cN))
     rw [← hv3] at S2 ⊢
     have PZ_ := PZ_.keep (n := w.heap.size) (W2 := v3) (Nat.le_refl _) (fun g_ hg => by rw [hv3]; exact Below.heap_setCell _ _ _ _ hg) (by rw [hv3]; simp)
     have kp : ∀ g_, g_ ≠ w.heap.size → v3.heap[g_]? = k2w.heap[g_]? := fun g_ hg => by rw [hv3]; exact Below.heap_setCell _ _ _ _ hg
     have D := D.keep (kp _ (by omega))
     have We := We.keep (kp _ (by omega))
     refine hKz _ _ ⟨D, ?_⟩
     clear hKz Kz hv3 kp S oN bE
     refine wpAnyH_done (by kernel_rfl) ?_ _
     have S := S2
     clear S2
     obtain ⟨z, hz⟩ : ∃ z : BxD, z = { x with net := N_, aN := aN, cN := cN } := ⟨_, rfl⟩
     rw [← hz] at S
     have hP : Hid (z.p = setN x.p (x.net.take k ++ x.net.drop (k + 1))) := by unfold Hid; rw [hz, ← hL1.out, ← hL2.out, ← hN_.out]; rfl
     clear hz hN_
     have c0 := D.c0
     by_cases h3 : d.k = 3
     ·
      have d3 : (d.k == 3) = true := by simpa using h3
      go_upto_region 11 with fail
      clear c0 d3
      replace h3 : Hid _ := h3
      have cc := S.A.at_
      obtain ⟨a0, a1, a2, a3, a4, a5, a6, a7, a8, a9⟩ := cc
      have cc := We
      obtain ⟨e0, e1, e2, e3, e4, e5, e6, e7, e8, e9, e10, e11⟩ := cc
      go_wp2_with fail
      go_at_call 70
      clear a0 a1 a2 a3 a4 a5 a6 a7 a8 a9 e0 e1 e2 e3 e4 e5 e6 e7 e8 e9 e10 e11
      have hbz : bxOk z.p = true := by rw [hP.out]; exact bxOk_less hbk.out k
      have hfr : 0 ≤ v.fr ∧ v.fr ≤ 1 := by have h := bxOk_wire hbk.out (k := k) hkl; rw [show x.p.net = x.net from rfl, hv.out] at h; exact h
      refine (heardS z v v3 base S.O S.sz hbz hfr).mono ?_
      rintro e u9 ⟨x3, rfl, p3, O3, B3, P3⟩
      have PZ_ := PZ_.trans (P3.pz S.O)
      obtain ⟨A9, S9⟩ := S.turnX O3 B3 P3
      clear hbz hfr O3 B3 P3 S
      have cc := A9
      obtain ⟨⟨a0, a1, a2, a3, a4, a5, a6, a7, a8, a9⟩, af⟩ := cc
      obtain ⟨f0, f1, f2, f3, f4, f5, f6, f7, f8, f9⟩ := ten af
      clear af
      go_upto_region 12 with fail
      clear a0 a1 a2 a3 a4 a5 a6 a7 a8 a9 f0 f1 f2 f3 f4 f5 f6 f7 f8 f9 A9
      obtain ⟨v9, hv9⟩ := mk_ ((((((((((u9.setCell ⟨w.heap.size, 0, none⟩ (.int .i64 x3.id)).setCell ⟨w.heap.size, 1, none⟩ (.int .i64 x3.po)).setCell ⟨w.heap.size, 2, none⟩ (.int .i64 x3.rg.ep)).setCell ⟨w.heap.size, 3, none⟩ (.int .i64 x3.rg.ow)).setCell ⟨w.heap.size, 4, none⟩ (.int .i64 x3.rg.pa)).setCell ⟨w.heap.size, 5, none⟩ (.slice x3.aT x3.two.length x3.cT)).setCell ⟨w.heap.size, 6, none⟩ (.slice x3.aN x3.net.length x3.cN)).setCell ⟨w.heap.size, 7, none⟩ (.slice x3.aG x3.ga.length x3.cG)).setCell ⟨w.heap.size, 8, none⟩ (.slice x3.aL x3.ln.length x3.cL)).setCell ⟨w.heap.size, 9, none⟩ (.slice x3.aS x3.sd.length x3.cS))
      rw [← hv9] at S9 ⊢
      have PZ_ := PZ_.keep (n := w.heap.size) (W2 := v9) (Nat.le_refl _) (fun g_ hg => by rw [hv9]; exact heap_put10 _ _ g_ _ hg) (by rw [hv9]; simp)
      clear hv9
      have S := S9
      clear S9
      have hP3 : Hid ((x3.p, (0 : Int)) = R) := by
       unfold Hid
       rw [hR.out]; unfold netX
       rw [if_neg hX0.out, if_neg h5.out, if_pos h3.out, hk.out, p3, hP.out]
       show _ = (heardX (setN x.p (x.net.take k ++ x.net.drop (k + 1))) (x.net.getD k Wi.nil), (0 : Int))
       rw [hv.out]
      clear p3
      obtain ⟨O9, B9⟩ := S.ret
      have P9 := S.pz PZ_ (by omega)
      have ZB := S.Z.box
      have cc := S.A.at_
      obtain ⟨a0, a1, a2, a3, a4, a5, a6, a7, a8, a9⟩ := cc
      obtain ⟨r0, r1, r2, r3, r4, r5, r6, r7, r8, r9, g0, g1, g2, g3, g4, g5, g6, g7, g8, g9⟩ := zten ZB
      clear S
      go_wp2
      refine bodyPost_ret (v := .tuple #[bvx x3, .int .i64 0]) (by simp [bvx, results, Try.results59, go_sem, *]) rfl ⟨x3, 0, rfl, by exact hP3.out, O9, B9, P9⟩
     ·
      have d3 : (d.k == 3) = false := by simpa using h3
      replace h3 : Hid (¬ d.k = 3) := h3
      have hP3 : Hid ((z.p, (0 : Int)) = R) := by
       unfold Hid
       rw [hR.out]; unfold netX
       rw [if_neg hX0.out, if_neg h5.out, if_neg h3.out, hk.out, hP.out]
       rfl
      obtain ⟨O9, B9⟩ := S.ret
      have P9 := S.pz PZ_ (by omega)
      have ZB := S.Z.box
      have cc := S.A.at_
      obtain ⟨a0, a1, a2, a3, a4, a5, a6, a7, a8, a9⟩ := cc
      obtain ⟨r0, r1, r2, r3, r4, r5, r6, r7, r8, r9, g0, g1, g2, g3, g4, g5, g6, g7, g8, g9⟩ := zten ZB
      clear S
      go_wp2
      refine bodyPost_ret (v := .tuple #[bvx z, .int .i64 0]) (by simp [bvx, results, Try.results59, go_sem, *]) rfl ⟨z, 0, rfl, by exact hP3.out, O9, B9, P9⟩
   ·
    refine wpOp_step rfl (fun Kz hKz => ?_)
    rw [if_pos (by kernel_rfl)]
    have cc := S.A.at_
    obtain ⟨a0, a1, a2, a3, a4, a5, a6, a7, a8, a9⟩ := cc
    rw [hat.out] at a6
    go_simp
    clear a0 a1 a2 a3 a4 a5 a6 a7 a8 a9
    refine hKz _ _ ⟨D, ?_⟩
    clear hKz Kz hi
    refine tw 5 42 (.slice (some ⟨gN, 0, none⟩) k x.cN) ?_ (hy := by intro Y hSw; go_simp; try omega)
    refine wpAnyH_all (rs := [0, 8]) (by kernel_rfl) (by simp) ?_
    intro i hi; rcases (by simpa using hi : i = 0 ∨ i = 8) with rfl | rfl
    ·
     refine wpOp_step rfl (fun Kz hKz => ?_)
     rw [if_pos (by kernel_rfl)]
     go_simp
     obtain ⟨k0w, hU⟩ := mk_ (v0.alloc (Obj.cells #[] 125))
     have E : FOwn wiEnc 12 125 u1.heap.size k0w (.slice (some ⟨v0.heap.size, 0, none⟩) 0 0) ([] : List Wi) := by rw [hU]; exact (FOwn.empty v0).base (by omega)
     have kq : Below v0.heap.size v0 k0w := by rw [hU]; exact below_new _
     have bE : ∀ b, (Value.slice (some ⟨v0.heap.size, 0, none⟩) 0 0).ownBlock = some b → u1.heap.size ≤ b := fun b e => (E.lt b e).1
     rw [← hU]
     clear hU
     obtain ⟨qe, hqe⟩ := mk_ v0.heap.size
     rw [← hqe] at E bE ⊢
     clear hqe
     have S := S.later kq
     have PZ_ := PZ_.later kq
     have D := D.below kq D.lt
     have We := We.below kq We.lt
     have zk0w := kq.size
     clear kq
     refine hKz _ _ ⟨D, ?_⟩
     clear hKz Kz hi
     refine wpAnyH_all (rs := [6, 8]) (by kernel_rfl) (by simp) ?_
     intro i hi; rcases (by simpa using hi : i = 6 ∨ i = 8) with rfl | rfl
     focus
      refine wpOp_step rfl (fun Kz hKz => ?_)
      rw [if_pos (by kernel_rfl)]
      refine fapp wiEnc_len wiEnc_ones 43 _ _ 75 rfl rfl u1.heap.size 125 i1 (.agg #[.int .i64 0, .bool false, .int .i64 0, .int .i64 0, .int .i64 0, .int .i64 0, .int .i64 0, .int .i64 0, .int .i64 0, .int .i64 0, .int .i64 0, .bool false]) 96 Try.underlying75 hi1 hz10 hz11 hz12 rfl (by decide) (by decide) (.slice (some ⟨qe, 0, none⟩) 0 0) ([] : List Wi) rfl E (some ⟨gN, 0, none⟩) x.cN L1 (by rw [hl1.out]; rfl) (fun e => by cases e) (hvT _ S) (by first | omega | (simp; omega)) (by omega) ?_
      intro vE k1w E_ gN_ _
      replace E_ : FOwn wiEnc 12 125 u1.heap.size k1w vE L1 := E_
      have hr : ∀ b, (Value.ownBlock (.slice (some ⟨qe, 0, none⟩) 0 0)) = some b → base ≤ b ∧ BxNe b x ∧ b ≠ w.heap.size ∧ b ≠ w.heap.size + 1 + 1 ∧ b ≠ w.heap.size + 1 ∧ b ≠ qn := fun b e => by have h := bE b e; have lw := We0; exact ⟨by omega, NEA b h, by omega, by omega, by omega, by omega⟩
      have PZ_ := PZ_.grown E (by decide) gN_
      have S := S.other gN_ (fun b e => ⟨(hr b e).1, (hr b e).2.1, (hr b e).2.2.1, (hr b e).2.2.2.1⟩)
      have D := D.keep (gN_.block _ D.lt (fun e => (hr _ e.symm).2.2.2.2.1 rfl))
      have We := We.keep (gN_.block _ We.lt (fun e => (hr _ e.symm).2.2.2.2.2 rfl))
      have zk1w := gN_.size
      have bE2 : ∀ b, (Value.ownBlock vE) = some b → u1.heap.size ≤ b := fun b e => (E_.lt b e).1
      clear E bE hr gN_
      have E := E_
      have bE := bE2
      clear E_ bE2
      simp only [List.set_cons_zero, List.set_cons_succ]
      refine hKz _ _ ⟨D, ?_⟩
      clear hKz Kz hi
      refine w1 8 fun Kz hKz => ?_
      have cc := S.A.at_
      obtain ⟨a0, a1, a2, a3, a4, a5, a6, a7, a8, a9⟩ := cc
      rw [hat.out] at a6
      go_simp
      clear a0 a1 a2 a3 a4 a5 a6 a7 a8 a9
      refine hKz _ _ ⟨D, ?_⟩
      clear hKz Kz
      refine tw 12 49 (.slice ad2 (x.net.length - (k + 1)) (x.cN - (k + 1))) ?_ (hy := by intro Y hSw; go_simp; rw [hA2.out])
     rotate_left
     focus
      refine wpOp_step rfl (fun Kz hKz => ?_)
      rw [if_pos (by kernel_rfl)]
      have cc := S.A.at_
      obtain ⟨a0, a1, a2, a3, a4, a5, a6, a7, a8, a9⟩ := cc
      rw [hat.out] at a6
      go_simp
      clear a0 a1 a2 a3 a4 a5 a6 a7 a8 a9
      refine hKz _ _ ⟨D, ?_⟩
      clear hKz Kz hi
      refine tw 12 49 (.slice ad2 (x.net.length - (k + 1)) (x.cN - (k + 1))) ?_ (hy := by intro Y hSw; go_simp; rw [hA2.out])
      refine w1 6 fun Kz hKz => ?_
      refine fapp wiEnc_len wiEnc_ones 43 _ _ 75 rfl rfl u1.heap.size 125 i1 (.agg #[.int .i64 0, .bool false, .int .i64 0, .int .i64 0, .int .i64 0, .int .i64 0, .int .i64 0, .int .i64 0, .int .i64 0, .int .i64 0, .int .i64 0, .bool false]) 96 Try.underlying75 hi1 hz10 hz11 hz12 rfl (by decide) (by decide) (.slice (some ⟨qe, 0, none⟩) 0 0) ([] : List Wi) rfl E (some ⟨gN, 0, none⟩) x.cN L1 (by rw [hl1.out]; rfl) (fun e => by cases e) (hvT _ S) (by first | omega | (simp; omega)) (by omega) ?_
      intro vE k1w E_ gN_ _
      replace E_ : FOwn wiEnc 12 125 u1.heap.size k1w vE L1 := E_
      have hr : ∀ b, (Value.ownBlock (.slice (some ⟨qe, 0, none⟩) 0 0)) = some b → base ≤ b ∧ BxNe b x ∧ b ≠ w.heap.size ∧ b ≠ w.heap.size + 1 + 1 ∧ b ≠ w.heap.size + 1 ∧ b ≠ qn := fun b e => by have h := bE b e; have lw := We0; exact ⟨by omega, NEA b h, by omega, by omega, by omega, by omega⟩
      have PZ_ := PZ_.grown E (by decide) gN_
      have S := S.other gN_ (fun b e => ⟨(hr b e).1, (hr b e).2.1, (hr b e).2.2.1, (hr b e).2.2.2.1⟩)
      have D := D.keep (gN_.block _ D.lt (fun e => (hr _ e.symm).2.2.2.2.1 rfl))
      have We := We.keep (gN_.block _ We.lt (fun e => (hr _ e.symm).2.2.2.2.2 rfl))
      have zk1w := gN_.size
      have bE2 : ∀ b, (Value.ownBlock vE) = some b → u1.heap.size ≤ b := fun b e => (E_.lt b e).1
      clear E bE hr gN_
      have E := E_
      have bE := bE2
      clear E_ bE2
      simp only [List.set_cons_zero, List.set_cons_succ]
      refine hKz _ _ ⟨D, ?_⟩
      clear hKz Kz
     rotate_left
     all_goals
      refine w1 13 fun Kz hKz => ?_
      refine fapp wiEnc_len wiEnc_ones 50 _ _ 75 rfl rfl u1.heap.size 125 i1 (.agg #[.int .i64 0, .bool false, .int .i64 0, .int .i64 0, .int .i64 0, .int .i64 0, .int .i64 0, .int .i64 0, .int .i64 0, .int .i64 0, .int .i64 0, .bool false]) 96 Try.underlying75 hi1 hz10 hz11 hz12 rfl (by decide) (by decide) vE L1 rfl E ad2 (x.cN - (k + 1)) L2 (by rw [hl2_.out]; rfl) (fun e => absurd e hAn) (hvD _ S) (by first | omega | (simp; omega)) (by omega) ?_
      intro vN k2w oN_ gN_ _
      replace oN_ : FOwn wiEnc 12 125 u1.heap.size k2w vN (L1 ++ L2) := oN_
      have hr : ∀ b, (Value.ownBlock vE) = some b → base ≤ b ∧ BxNe b x ∧ b ≠ w.heap.size ∧ b ≠ w.heap.size + 1 + 1 ∧ b ≠ w.heap.size + 1 ∧ b ≠ qn := fun b e => by have h := bE b e; have lw := We0; exact ⟨by omega, NEA b h, by omega, by omega, by omega, by omega⟩
      have PZ_ := PZ_.grown E (by decide) gN_
      have S := S.other gN_ (fun b e => ⟨(hr b e).1, (hr b e).2.1, (hr b e).2.2.1, (hr b e).2.2.2.1⟩)
      have D := D.keep (gN_.block _ D.lt (fun e => (hr _ e.symm).2.2.2.2.1 rfl))
      have We := We.keep (gN_.block _ We.lt (fun e => (hr _ e.symm).2.2.2.2.2 rfl))
      have zk2w := gN_.size
      have bE2 : ∀ b, (Value.ownBlock vN) = some b → u1.heap.size ≤ b := fun b e => (oN_.lt b e).1
      clear E bE hr gN_
      have oN := oN_
      have bE := bE2
      clear oN_ bE2
      simp only [List.set_cons_zero, List.set_cons_succ]
      refine hKz _ _ ⟨D, ?_⟩
      clear hKz Kz
      refine tw 14 51 (.pointer (some ⟨w.heap.size, 6, none⟩)) ?_
      obtain ⟨N_, hN_⟩ := mk_ (L1 ++ L2)
      rw [← hN_] at oN
      replace hN_ : Hid _ := hN_
      obtain ⟨aN, cN, rfl⟩ := oN.open_
      obtain ⟨A2, S2⟩ := S.putN N_ aN cN (oN.base ls) (fun _ _ _ => rfl) S.B (fun b e => ⟨by have := bE b e; omega, by have := bE b e; omega⟩)
      refine w1 15 fun Kz hKz => ?_
      have cc := A2
      obtain ⟨⟨a0, a1, a2, a3, a4, a5, a6, a7, a8, a9⟩, qf⟩ := cc
      have f6 := qf 6
      go_simp
      clear a0 a1 a2 a3 a4 a5 a6 a7 a8 a9 qf f6 A2
      obtain ⟨v3, hv3⟩ := mk_ (k2w.setCell ⟨w.heap.size, 6, none⟩ (.slice aN N_.length cN))
      rw [← hv3] at S2 ⊢
      have PZ_ := PZ_.keep (n := w.heap.size) (W2 := v3) (Nat.le_refl _) (fun g_ hg => by rw [hv3]; exact Below.heap_setCell _ _ _ _ hg) (by rw [hv3]; simp)
      have kp : ∀ g_, g_ ≠ w.heap.size → v3.heap[g_]? = k2w.heap[g_]? := fun g_ hg => by rw [hv3]; exact Below.heap_setCell _ _ _ _ hg
      have D := D.keep (kp _ (by omega))
      have We := We.keep (kp _ (by omega))
      refine hKz _ _ ⟨D, ?_⟩
      clear hKz Kz hv3 kp S oN bE
      refine wpAnyH_done (by kernel_rfl) ?_ _
      have S := S2
      clear S2
      obtain ⟨z, hz⟩ : ∃ z : BxD, z = { x with net := N_, aN := aN, cN := cN } := ⟨_, rfl⟩
      rw [← hz] at S
      have hP : Hid (z.p = setN x.p (x.net.take k ++ x.net.drop (k + 1))) := by unfold Hid; rw [hz, ← hL1.out, ← hL2.out, ← hN_.out]; rfl
      clear hz hN_
      have c0 := D.c0
      by_cases h3 : d.k = 3
      ·
       have d3 : (d.k == 3) = true := by simpa using h3
       go_upto_region 11 with fail
       clear c0 d3
       replace h3 : Hid _ := h3
       have cc := S.A.at_
       obtain ⟨a0, a1, a2, a3, a4, a5, a6, a7, a8, a9⟩ := cc
       have cc := We
       obtain ⟨e0, e1, e2, e3, e4, e5, e6, e7, e8, e9, e10, e11⟩ := cc
       go_wp2_with fail
       go_at_call 70
       clear a0 a1 a2 a3 a4 a5 a6 a7 a8 a9 e0 e1 e2 e3 e4 e5 e6 e7 e8 e9 e10 e11
       have hbz : bxOk z.p = true := by rw [hP.out]; exact bxOk_less hbk.out k
       have hfr : 0 ≤ v.fr ∧ v.fr ≤ 1 := by have h := bxOk_wire hbk.out (k := k) hkl; rw [show x.p.net = x.net from rfl, hv.out] at h; exact h
       refine (heardS z v v3 base S.O S.sz hbz hfr).mono ?_
       rintro e u9 ⟨x3, rfl, p3, O3, B3, P3⟩
       have PZ_ := PZ_.trans (P3.pz S.O)
       obtain ⟨A9, S9⟩ := S.turnX O3 B3 P3
       clear hbz hfr O3 B3 P3 S
       have cc := A9
       obtain ⟨⟨a0, a1, a2, a3, a4, a5, a6, a7, a8, a9⟩, af⟩ := cc
       obtain ⟨f0, f1, f2, f3, f4, f5, f6, f7, f8, f9⟩ := ten af
       clear af
       go_upto_region 12 with fail
       clear a0 a1 a2 a3 a4 a5 a6 a7 a8 a9 f0 f1 f2 f3 f4 f5 f6 f7 f8 f9 A9
       obtain ⟨v9, hv9⟩ := mk_ ((((((((((u9.setCell ⟨w.heap.size, 0, none⟩ (.int .i64 x3.id)).setCell ⟨w.heap.size, 1, none⟩ (.int .i64 x3.po)).setCell ⟨w.heap.size, 2, none⟩ (.int .i64 x3.rg.ep)).setCell ⟨w.heap.size, 3, none⟩ (.int .i64 x3.rg.ow)).setCell ⟨w.heap.size, 4, none⟩ (.int .i64 x3.rg.pa)).setCell ⟨w.heap.size, 5, none⟩ (.slice x3.aT x3.two.length x3.cT)).setCell ⟨w.heap.size, 6, none⟩ (.slice x3.aN x3.net.length x3.cN)).setCell ⟨w.heap.size, 7, none⟩ (.slice x3.aG x3.ga.length x3.cG)).setCell ⟨w.heap.size, 8, none⟩ (.slice x3.aL x3.ln.length x3.cL)).setCell ⟨w.heap.size, 9, none⟩ (.slice x3.aS x3.sd.length x3.cS))
       rw [← hv9] at S9 ⊢
       have PZ_ := PZ_.keep (n := w.heap.size) (W2 := v9) (Nat.le_refl _) (fun g_ hg => by rw [hv9]; exact heap_put10 _ _ g_ _ hg) (by rw [hv9]; simp)
       clear hv9
       have S := S9
       clear S9
       have hP3 : Hid ((x3.p, (0 : Int)) = R) := by
        unfold Hid
        rw [hR.out]; unfold netX
        rw [if_neg hX0.out, if_neg h5.out, if_pos h3.out, hk.out, p3, hP.out]
        show _ = (heardX (setN x.p (x.net.take k ++ x.net.drop (k + 1))) (x.net.getD k Wi.nil), (0 : Int))
        rw [hv.out]
       clear p3
       obtain ⟨O9, B9⟩ := S.ret
       have P9 := S.pz PZ_ (by omega)
       have ZB := S.Z.box
       have cc := S.A.at_
       obtain ⟨a0, a1, a2, a3, a4, a5, a6, a7, a8, a9⟩ := cc
       obtain ⟨r0, r1, r2, r3, r4, r5, r6, r7, r8, r9, g0, g1, g2, g3, g4, g5, g6, g7, g8, g9⟩ := zten ZB
       clear S
       go_wp2
       refine bodyPost_ret (v := .tuple #[bvx x3, .int .i64 0]) (by simp [bvx, results, Try.results59, go_sem, *]) rfl ⟨x3, 0, rfl, by exact hP3.out, O9, B9, P9⟩
      ·
       have d3 : (d.k == 3) = false := by simpa using h3
       replace h3 : Hid (¬ d.k = 3) := h3
       have hP3 : Hid ((z.p, (0 : Int)) = R) := by
        unfold Hid
        rw [hR.out]; unfold netX
        rw [if_neg hX0.out, if_neg h5.out, if_neg h3.out, hk.out, hP.out]
        rfl
       obtain ⟨O9, B9⟩ := S.ret
       have P9 := S.pz PZ_ (by omega)
       have ZB := S.Z.box
       have cc := S.A.at_
       obtain ⟨a0, a1, a2, a3, a4, a5, a6, a7, a8, a9⟩ := cc
       obtain ⟨r0, r1, r2, r3, r4, r5, r6, r7, r8, r9, g0, g1, g2, g3, g4, g5, g6, g7, g8, g9⟩ := zten ZB
       clear S
       go_wp2
       refine bodyPost_ret (v := .tuple #[bvx z, .int .i64 0]) (by simp [bvx, results, Try.results59, go_sem, *]) rfl ⟨z, 0, rfl, by exact hP3.out, O9, B9, P9⟩
    ·
     refine wpOp_step rfl (fun Kz hKz => ?_)
     rw [if_pos (by kernel_rfl)]
     have cc := S.A.at_
     obtain ⟨a0, a1, a2, a3, a4, a5, a6, a7, a8, a9⟩ := cc
     rw [hat.out] at a6
     go_simp
     clear a0 a1 a2 a3 a4 a5 a6 a7 a8 a9
     refine hKz _ _ ⟨D, ?_⟩
     clear hKz Kz hi
     refine tw 12 49 (.slice ad2 (x.net.length - (k + 1)) (x.cN - (k + 1))) ?_ (hy := by intro Y hSw; go_simp; rw [hA2.out])
     refine w1 0 fun Kz hKz => ?_
     go_simp
     obtain ⟨k0w, hU⟩ := mk_ (v0.alloc (Obj.cells #[] 125))
     have E : FOwn wiEnc 12 125 u1.heap.size k0w (.slice (some ⟨v0.heap.size, 0, none⟩) 0 0) ([] : List Wi) := by rw [hU]; exact (FOwn.empty v0).base (by omega)
     have kq : Below v0.heap.size v0 k0w := by rw [hU]; exact below_new _
     have bE : ∀ b, (Value.slice (some ⟨v0.heap.size, 0, none⟩) 0 0).ownBlock = some b → u1.heap.size ≤ b := fun b e => (E.lt b e).1
     rw [← hU]
     clear hU
     obtain ⟨qe, hqe⟩ := mk_ v0.heap.size
     rw [← hqe] at E bE ⊢
     clear hqe
     have S := S.later kq
     have PZ_ := PZ_.later kq
     have D := D.below kq D.lt
     have We := We.below kq We.lt
     have zk0w := kq.size
     clear kq
     refine hKz _ _ ⟨D, ?_⟩
     clear hKz Kz
     refine w1 6 fun Kz hKz => ?_
     refine fapp wiEnc_len wiEnc_ones 43 _ _ 75 rfl rfl u1.heap.size 125 i1 (.agg #[.int .i64 0, .bool false, .int .i64 0, .int .i64 0, .int .i64 0, .int .i64 0, .int .i64 0, .int .i64 0, .int .i64 0, .int .i64 0, .int .i64 0, .bool false]) 96 Try.underlying75 hi1 hz10 hz11 hz12 rfl (by decide) (by decide) (.slice (some ⟨qe, 0, none⟩) 0 0) ([] : List Wi) rfl E (some ⟨gN, 0, none⟩) x.cN L1 (by rw [hl1.out]; rfl) (fun e => by cases e) (hvT _ S) (by first | omega | (simp; omega)) (by omega) ?_
     intro vE k1w E_ gN_ _
     replace E_ : FOwn wiEnc 12 125 u1.heap.size k1w vE L1 := E_
     have hr : ∀ b, (Value.ownBlock (.slice (some ⟨qe, 0, none⟩) 0 0)) = some b → base ≤ b ∧ BxNe b x ∧ b ≠ w.heap.size ∧ b ≠ w.heap.size + 1 + 1 ∧ b ≠ w.heap.size + 1 ∧ b ≠ qn := fun b e => by have h := bE b e; have lw := We0; exact ⟨by omega, NEA b h, by omega, by omega, by omega, by omega⟩
     have PZ_ := PZ_.grown E (by decide) gN_
     have S := S.other gN_ (fun b e => ⟨(hr b e).1, (hr b e).2.1, (hr b e).2.2.1, (hr b e).2.2.2.1⟩)
     have D := D.keep (gN_.block _ D.lt (fun e => (hr _ e.symm).2.2.2.2.1 rfl))
     have We := We.keep (gN_.block _ We.lt (fun e => (hr _ e.symm).2.2.2.2.2 rfl))
     have zk1w := gN_.size
     have bE2 : ∀ b, (Value.ownBlock vE) = some b → u1.heap.size ≤ b := fun b e => (E_.lt b e).1
     clear E bE hr gN_
     have E := E_
     have bE := bE2
     clear E_ bE2
     simp only [List.set_cons_zero, List.set_cons_succ]
     refine hKz _ _ ⟨D, ?_⟩
     clear hKz Kz
     refine w1 13 fun Kz hKz => ?_
     refine fapp wiEnc_len wiEnc_ones 50 _ _ 75 rfl rfl u1.heap.size 125 i1 (.agg #[.int .i64 0, .bool false, .int .i64 0, .int .i64 0, .int .i64 0, .int .i64 0, .int .i64 0, .int .i64 0, .int .i64 0, .int .i64 0, .int .i64 0, .bool false]) 96 Try.underlying75 hi1 hz10 hz11 hz12 rfl (by decide) (by decide) vE L1 rfl E ad2 (x.cN - (k + 1)) L2 (by rw [hl2_.out]; rfl) (fun e => absurd e hAn) (hvD _ S) (by first | omega | (simp; omega)) (by omega) ?_
     intro vN k2w oN_ gN_ _
     replace oN_ : FOwn wiEnc 12 125 u1.heap.size k2w vN (L1 ++ L2) := oN_
     have hr : ∀ b, (Value.ownBlock vE) = some b → base ≤ b ∧ BxNe b x ∧ b ≠ w.heap.size ∧ b ≠ w.heap.size + 1 + 1 ∧ b ≠ w.heap.size + 1 ∧ b ≠ qn := fun b e => by have h := bE b e; have lw := We0; exact ⟨by omega, NEA b h, by omega, by omega, by omega, by omega⟩
     have PZ_ := PZ_.grown E (by decide) gN_
     have S := S.other gN_ (fun b e => ⟨(hr b e).1, (hr b e).2.1, (hr b e).2.2.1, (hr b e).2.2.2.1⟩)
     have D := D.keep (gN_.block _ D.lt (fun e => (hr _ e.symm).2.2.2.2.1 rfl))
     have We := We.keep (gN_.block _ We.lt (fun e => (hr _ e.symm).2.2.2.2.2 rfl))
     have zk2w := gN_.size
     have bE2 : ∀ b, (Value.ownBlock vN) = some b → u1.heap.size ≤ b := fun b e => (oN_.lt b e).1
     clear E bE hr gN_
     have oN := oN_
     have bE := bE2
     clear oN_ bE2
     simp only [List.set_cons_zero, List.set_cons_succ]
     refine hKz _ _ ⟨D, ?_⟩
     clear hKz Kz
     refine tw 14 51 (.pointer (some ⟨w.heap.size, 6, none⟩)) ?_
     obtain ⟨N_, hN_⟩ := mk_ (L1 ++ L2)
     rw [← hN_] at oN
     replace hN_ : Hid _ := hN_
     obtain ⟨aN, cN, rfl⟩ := oN.open_
     obtain ⟨A2, S2⟩ := S.putN N_ aN cN (oN.base ls) (fun _ _ _ => rfl) S.B (fun b e => ⟨by have := bE b e; omega, by have := bE b e; omega⟩)
     refine w1 15 fun Kz hKz => ?_
     have cc := A2
     obtain ⟨⟨a0, a1, a2, a3, a4, a5, a6, a7, a8, a9⟩, qf⟩ := cc
     have f6 := qf 6
     go_simp
     clear a0 a1 a2 a3 a4 a5 a6 a7 a8 a9 qf f6 A2
     obtain ⟨v3, hv3⟩ := mk_ (k2w.setCell ⟨w.heap.size, 6, none⟩ (.slice aN N_.length cN))
     rw [← hv3] at S2 ⊢
     have PZ_ := PZ_.keep (n := w.heap.size) (W2 := v3) (Nat.le_refl _) (fun g_ hg => by rw [hv3]; exact Below.heap_setCell _ _ _ _ hg) (by rw [hv3]; simp)
     have kp : ∀ g_, g_ ≠ w.heap.size → v3.heap[g_]? = k2w.heap[g_]? := fun g_ hg => by rw [hv3]; exact Below.heap_setCell _ _ _ _ hg
     have D := D.keep (kp _ (by omega))
     have We := We.keep (kp _ (by omega))
     refine hKz _ _ ⟨D, ?_⟩
     clear hKz Kz hv3 kp S oN bE
     refine wpAnyH_done (by kernel_rfl) ?_ _
     have S := S2
     clear S2
     obtain ⟨z, hz⟩ : ∃ z : BxD, z = { x with net := N_, aN := aN, cN := cN } := ⟨_, rfl⟩
     rw [← hz] at S
     have hP : Hid (z.p = setN x.p (x.net.take k ++ x.net.drop (k + 1))) := by unfold Hid; rw [hz, ← hL1.out, ← hL2.out, ← hN_.out]; rfl
     clear hz hN_
     have c0 := D.c0
     by_cases h3 : d.k = 3
     ·
      have d3 : (d.k == 3) = true := by simpa using h3
      go_upto_region 11 with fail
      clear c0 d3
      replace h3 : Hid _ := h3
      have cc := S.A.at_
      obtain ⟨a0, a1, a2, a3, a4, a5, a6, a7, a8, a9⟩ := cc
      have cc := We
      obtain ⟨e0, e1, e2, e3, e4, e5, e6, e7, e8, e9, e10, e11⟩ := cc
      go_wp2_with fail
      go_at_call 70
      clear a0 a1 a2 a3 a4 a5 a6 a7 a8 a9 e0 e1 e2 e3 e4 e5 e6 e7 e8 e9 e10 e11
      have hbz : bxOk z.p = true := by rw [hP.out]; exact bxOk_less hbk.out k
      have hfr : 0 ≤ v.fr ∧ v.fr ≤ 1 := by have h := bxOk_wire hbk.out (k := k) hkl; rw [show x.p.net = x.net from rfl, hv.out] at h; exact h
      refine (heardS z v v3 base S.O S.sz hbz hfr).mono ?_
      rintro e u9 ⟨x3, rfl, p3, O3, B3, P3⟩
      have PZ_ := PZ_.trans (P3.pz S.O)
      obtain ⟨A9, S9⟩ := S.turnX O3 B3 P3
      clear hbz hfr O3 B3 P3 S
      have cc := A9
      obtain ⟨⟨a0, a1, a2, a3, a4, a5, a6, a7, a8, a9⟩, af⟩ := cc
      obtain ⟨f0, f1, f2, f3, f4, f5, f6, f7, f8, f9⟩ := ten af
      clear af
      go_upto_region 12 with fail
      clear a0 a1 a2 a3 a4 a5 a6 a7 a8 a9 f0 f1 f2 f3 f4 f5 f6 f7 f8 f9 A9
      obtain ⟨v9, hv9⟩ := mk_ ((((((((((u9.setCell ⟨w.heap.size, 0, none⟩ (.int .i64 x3.id)).setCell ⟨w.heap.size, 1, none⟩ (.int .i64 x3.po)).setCell ⟨w.heap.size, 2, none⟩ (.int .i64 x3.rg.ep)).setCell ⟨w.heap.size, 3, none⟩ (.int .i64 x3.rg.ow)).setCell ⟨w.heap.size, 4, none⟩ (.int .i64 x3.rg.pa)).setCell ⟨w.heap.size, 5, none⟩ (.slice x3.aT x3.two.length x3.cT)).setCell ⟨w.heap.size, 6, none⟩ (.slice x3.aN x3.net.length x3.cN)).setCell ⟨w.heap.size, 7, none⟩ (.slice x3.aG x3.ga.length x3.cG)).setCell ⟨w.heap.size, 8, none⟩ (.slice x3.aL x3.ln.length x3.cL)).setCell ⟨w.heap.size, 9, none⟩ (.slice x3.aS x3.sd.length x3.cS))
      rw [← hv9] at S9 ⊢
      have PZ_ := PZ_.keep (n := w.heap.size) (W2 := v9) (Nat.le_refl _) (fun g_ hg => by rw [hv9]; exact heap_put10 _ _ g_ _ hg) (by rw [hv9]; simp)
      clear hv9
      have S := S9
      clear S9
      have hP3 : Hid ((x3.p, (0 : Int)) = R) := by
       unfold Hid
       rw [hR.out]; unfold netX
       rw [if_neg hX0.out, if_neg h5.out, if_pos h3.out, hk.out, p3, hP.out]
       show _ = (heardX (setN x.p (x.net.take k ++ x.net.drop (k + 1))) (x.net.getD k Wi.nil), (0 : Int))
       rw [hv.out]
      clear p3
      obtain ⟨O9, B9⟩ := S.ret
      have P9 := S.pz PZ_ (by omega)
      have ZB := S.Z.box
      have cc := S.A.at_
      obtain ⟨a0, a1, a2, a3, a4, a5, a6, a7, a8, a9⟩ := cc
      obtain ⟨r0, r1, r2, r3, r4, r5, r6, r7, r8, r9, g0, g1, g2, g3, g4, g5, g6, g7, g8, g9⟩ := zten ZB
      clear S
      go_wp2
      refine bodyPost_ret (v := .tuple #[bvx x3, .int .i64 0]) (by simp [bvx, results, Try.results59, go_sem, *]) rfl ⟨x3, 0, rfl, by exact hP3.out, O9, B9, P9⟩
     ·
      have d3 : (d.k == 3) = false := by simpa using h3
      replace h3 : Hid (¬ d.k = 3) := h3
      have hP3 : Hid ((z.p, (0 : Int)) = R) := by
       unfold Hid
       rw [hR.out]; unfold netX
       rw [if_neg hX0.out, if_neg h5.out, if_neg h3.out, hk.out, hP.out]
       rfl
      obtain ⟨O9, B9⟩ := S.ret
      have P9 := S.pz PZ_ (by omega)
      have ZB := S.Z.box
      have cc := S.A.at_
      obtain ⟨a0, a1, a2, a3, a4, a5, a6, a7, a8, a9⟩ := cc
      obtain ⟨r0, r1, r2, r3, r4, r5, r6, r7, r8, r9, g0, g1, g2, g3, g4, g5, g6, g7, g8, g9⟩ := zten ZB
      clear S
      go_wp2
      refine bodyPost_ret (v := .tuple #[bvx z, .int .i64 0]) (by simp [bvx, results, Try.results59, go_sem, *]) rfl ⟨z, 0, rfl, by exact hP3.out, O9, B9, P9⟩
   ·
    refine wpOp_step rfl (fun Kz hKz => ?_)
    rw [if_pos (by kernel_rfl)]
    have cc := S.A.at_
    obtain ⟨a0, a1, a2, a3, a4, a5, a6, a7, a8, a9⟩ := cc
    rw [hat.out] at a6
    go_simp
    clear a0 a1 a2 a3 a4 a5 a6 a7 a8 a9
    refine hKz _ _ ⟨D, ?_⟩
    clear hKz Kz hi
    refine tw 12 49 (.slice ad2 (x.net.length - (k + 1)) (x.cN - (k + 1))) ?_ (hy := by intro Y hSw; go_simp; rw [hA2.out])
    refine wpAnyH_all (rs := [0, 2]) (by kernel_rfl) (by simp) ?_
    intro i hi; rcases (by simpa using hi : i = 0 ∨ i = 2) with rfl | rfl
    focus
     refine wpOp_step rfl (fun Kz hKz => ?_)
     rw [if_pos (by kernel_rfl)]
     go_simp
     obtain ⟨k0w, hU⟩ := mk_ (v0.alloc (Obj.cells #[] 125))
     have E : FOwn wiEnc 12 125 u1.heap.size k0w (.slice (some ⟨v0.heap.size, 0, none⟩) 0 0) ([] : List Wi) := by rw [hU]; exact (FOwn.empty v0).base (by omega)
     have kq : Below v0.heap.size v0 k0w := by rw [hU]; exact below_new _
     have bE : ∀ b, (Value.slice (some ⟨v0.heap.size, 0, none⟩) 0 0).ownBlock = some b → u1.heap.size ≤ b := fun b e => (E.lt b e).1
     rw [← hU]
     clear hU
     obtain ⟨qe, hqe⟩ := mk_ v0.heap.size
     rw [← hqe] at E bE ⊢
     clear hqe
     have S := S.later kq
     have PZ_ := PZ_.later kq
     have D := D.below kq D.lt
     have We := We.below kq We.lt
     have zk0w := kq.size
     clear kq
     refine hKz _ _ ⟨D, ?_⟩
     clear hKz Kz hi
     refine w1 2 fun Kz hKz => ?_
     have cc := S.A.at_
     obtain ⟨a0, a1, a2, a3, a4, a5, a6, a7, a8, a9⟩ := cc
     rw [hat.out] at a6
     go_simp
     clear a0 a1 a2 a3 a4 a5 a6 a7 a8 a9
     refine hKz _ _ ⟨D, ?_⟩
     clear hKz Kz
     refine tw 5 42 (.slice (some ⟨gN, 0, none⟩) k x.cN) ?_ (hy := by intro Y hSw; go_simp; try omega)
    rotate_left
    focus
     refine wpOp_step rfl (fun Kz hKz => ?_)
     rw [if_pos (by kernel_rfl)]
     have cc := S.A.at_
     obtain ⟨a0, a1, a2, a3, a4, a5, a6, a7, a8, a9⟩ := cc
     rw [hat.out] at a6
     go_simp
     clear a0 a1 a2 a3 a4 a5 a6 a7 a8 a9
     refine hKz _ _ ⟨D, ?_⟩
     clear hKz Kz hi
     refine tw 5 42 (.slice (some ⟨gN, 0, none⟩) k x.cN) ?_ (hy := by intro Y hSw; go_simp; try omega)
     refine w1 0 fun Kz hKz => ?_
     go_simp
     obtain ⟨k0w, hU⟩ := mk_ (v0.alloc (Obj.cells #[] 125))
     have E : FOwn wiEnc 12 125 u1.heap.size k0w (.slice (some ⟨v0.heap.size, 0, none⟩) 0 0) ([] : List Wi) := by rw [hU]; exact (FOwn.empty v0).base (by omega)
     have kq : Below v0.heap.size v0 k0w := by rw [hU]; exact below_new _
     have bE : ∀ b, (Value.slice (some ⟨v0.heap.size, 0, none⟩) 0 0).ownBlock = some b → u1.heap.size ≤ b := fun b e => (E.lt b e).1
     rw [← hU]
     clear hU
     obtain ⟨qe, hqe⟩ := mk_ v0.heap.size
     rw [← hqe] at E bE ⊢
     clear hqe
     have S := S.later kq
     have PZ_ := PZ_.later kq
     have D := D.below kq D.lt
     have We := We.below kq We.lt
     have zk0w := kq.size
     clear kq
     refine hKz _ _ ⟨D, ?_⟩
     clear hKz Kz
    rotate_left
    all_goals
     refine w1 6 fun Kz hKz => ?_
     refine fapp wiEnc_len wiEnc_ones 43 _ _ 75 rfl rfl u1.heap.size 125 i1 (.agg #[.int .i64 0, .bool false, .int .i64 0, .int .i64 0, .int .i64 0, .int .i64 0, .int .i64 0, .int .i64 0, .int .i64 0, .int .i64 0, .int .i64 0, .bool false]) 96 Try.underlying75 hi1 hz10 hz11 hz12 rfl (by decide) (by decide) (.slice (some ⟨qe, 0, none⟩) 0 0) ([] : List Wi) rfl E (some ⟨gN, 0, none⟩) x.cN L1 (by rw [hl1.out]; rfl) (fun e => by cases e) (hvT _ S) (by first | omega | (simp; omega)) (by omega) ?_
     intro vE k1w E_ gN_ _
     replace E_ : FOwn wiEnc 12 125 u1.heap.size k1w vE L1 := E_
     have hr : ∀ b, (Value.ownBlock (.slice (some ⟨qe, 0, none⟩) 0 0)) = some b → base ≤ b ∧ BxNe b x ∧ b ≠ w.heap.size ∧ b ≠ w.heap.size + 1 + 1 ∧ b ≠ w.heap.size + 1 ∧ b ≠ qn := fun b e => by have h := bE b e; have lw := We0; exact ⟨by omega, NEA b h, by omega, by omega, by omega, by omega⟩
     have PZ_ := PZ_.grown E (by decide) gN_
     have S := S.other gN_ (fun b e => ⟨(hr b e).1, (hr b e).2.1, (hr b e).2.2.1, (hr b e).2.2.2.1⟩)
     have D := D.keep (gN_.block _ D.lt (fun e => (hr _ e.symm).2.2.2.2.1 rfl))
     have We := We.keep (gN_.block _ We.lt (fun e => (hr _ e.symm).2.2.2.2.2 rfl))
     have zk1w := gN_.size
     have bE2 : ∀ b, (Value.ownBlock vE) = some b → u1.heap.size ≤ b := fun b e => (E_.lt b e).1
     clear E bE hr gN_
     have E := E_
     have bE := bE2
     clear E_ bE2
     simp only [List.set_cons_zero, List.set_cons_succ]
     refine hKz _ _ ⟨D, ?_⟩
     clear hKz Kz
     refine w1 13 fun Kz hKz => ?_
     refine fapp wiEnc_len wiEnc_ones 50 _ _ 75 rfl rfl u1.heap.size 125 i1 (.agg #[.int .i64 0, .bool false, .int .i64 0, .int .i64 0, .int .i64 0, .int .i64 0, .int .i64 0, .int .i64 0, .int .i64 0, .int .i64 0, .int .i64 0, .bool false]) 96 Try.underlying75 hi1 hz10 hz11 hz12 rfl (by decide) (by decide) vE L1 rfl E ad2 (x.cN - (k + 1)) L2 (by rw [hl2_.out]; rfl) (fun e => absurd e hAn) (hvD _ S) (by first | omega | (simp; omega)) (by omega) ?_
     intro vN k2w oN_ gN_ _
     replace oN_ : FOwn wiEnc 12 125 u1.heap.size k2w vN (L1 ++ L2) := oN_
     have hr : ∀ b, (Value.ownBlock vE) = some b → base ≤ b ∧ BxNe b x ∧ b ≠ w.heap.size ∧ b ≠ w.heap.size + 1 + 1 ∧ b ≠ w.heap.size + 1 ∧ b ≠ qn := fun b e => by have h := bE b e; have lw := We0; exact ⟨by omega, NEA b h, by omega, by omega, by omega, by omega⟩
     have PZ_ := PZ_.grown E (by decide) gN_
     have S := S.other gN_ (fun b e => ⟨(hr b e).1, (hr b e).2.1, (hr b e).2.2.1, (hr b e).2.2.2.1⟩)
     have D := D.keep (gN_.block _ D.lt (fun e => (hr _ e.symm).2.2.2.2.1 rfl))
     have We := We.keep (gN_.block _ We.lt (fun e => (hr _ e.symm).2.2.2.2.2 rfl))
     have zk2w := gN_.size
     have bE2 : ∀ b, (Value.ownBlock vN) = some b → u1.heap.size ≤ b := fun b e => (oN_.lt b e).1
     clear E bE hr gN_
     have oN := oN_
     have bE := bE2
     clear oN_ bE2
     simp only [List.set_cons_zero, List.set_cons_succ]
     refine hKz _ _ ⟨D, ?_⟩
     clear hKz Kz
     refine tw 14 51 (.pointer (some ⟨w.heap.size, 6, none⟩)) ?_
     obtain ⟨N_, hN_⟩ := mk_ (L1 ++ L2)
     rw [← hN_] at oN
     replace hN_ : Hid _ := hN_
     obtain ⟨aN, cN, rfl⟩ := oN.open_
     obtain ⟨A2, S2⟩ := S.putN N_ aN cN (oN.base ls) (fun _ _ _ => rfl) S.B (fun b e => ⟨by have := bE b e; omega, by have := bE b e; omega⟩)
     refine w1 15 fun Kz hKz => ?_
     have cc := A2
     obtain ⟨⟨a0, a1, a2, a3, a4, a5, a6, a7, a8, a9⟩, qf⟩ := cc
     have f6 := qf 6
     go_simp
     clear a0 a1 a2 a3 a4 a5 a6 a7 a8 a9 qf f6 A2
     obtain ⟨v3, hv3⟩ := mk_ (k2w.setCell ⟨w.heap.size, 6, none⟩ (.slice aN N_.length cN))
     rw [← hv3] at S2 ⊢
     have PZ_ := PZ_.keep (n := w.heap.size) (W2 := v3) (Nat.le_refl _) (fun g_ hg => by rw [hv3]; exact Below.heap_setCell _ _ _ _ hg) (by rw [hv3]; simp)
     have kp : ∀ g_, g_ ≠ w.heap.size → v3.heap[g_]? = k2w.heap[g_]? := fun g_ hg => by rw [hv3]; exact Below.heap_setCell _ _ _ _ hg
     have D := D.keep (kp _ (by omega))
     have We := We.keep (kp _ (by omega))
     refine hKz _ _ ⟨D, ?_⟩
     clear hKz Kz hv3 kp S oN bE
     refine wpAnyH_done (by kernel_rfl) ?_ _
     have S := S2
     clear S2
     obtain ⟨z, hz⟩ : ∃ z : BxD, z = { x with net := N_, aN := aN, cN := cN } := ⟨_, rfl⟩
     rw [← hz] at S
     have hP : Hid (z.p = setN x.p (x.net.take k ++ x.net.drop (k + 1))) := by unfold Hid; rw [hz, ← hL1.out, ← hL2.out, ← hN_.out]; rfl
     clear hz hN_
     have c0 := D.c0
     by_cases h3 : d.k = 3
     ·
      have d3 : (d.k == 3) = true := by simpa using h3
      go_upto_region 11 with fail
      clear c0 d3
      replace h3 : Hid _ := h3
      have cc := S.A.at_
      obtain ⟨a0, a1, a2, a3, a4, a5, a6, a7, a8, a9⟩ := cc
      have cc := We
      obtain ⟨e0, e1, e2, e3, e4, e5, e6, e7, e8, e9, e10, e11⟩ := cc
      go_wp2_with fail
      go_at_call 70
      clear a0 a1 a2 a3 a4 a5 a6 a7 a8 a9 e0 e1 e2 e3 e4 e5 e6 e7 e8 e9 e10 e11
      have hbz : bxOk z.p = true := by rw [hP.out]; exact bxOk_less hbk.out k
      have hfr : 0 ≤ v.fr ∧ v.fr ≤ 1 := by have h := bxOk_wire hbk.out (k := k) hkl; rw [show x.p.net = x.net from rfl, hv.out] at h; exact h
      refine (heardS z v v3 base S.O S.sz hbz hfr).mono ?_
      rintro e u9 ⟨x3, rfl, p3, O3, B3, P3⟩
      have PZ_ := PZ_.trans (P3.pz S.O)
      obtain ⟨A9, S9⟩ := S.turnX O3 B3 P3
      clear hbz hfr O3 B3 P3 S
      have cc := A9
      obtain ⟨⟨a0, a1, a2, a3, a4, a5, a6, a7, a8, a9⟩, af⟩ := cc
      obtain ⟨f0, f1, f2, f3, f4, f5, f6, f7, f8, f9⟩ := ten af
      clear af
      go_upto_region 12 with fail
      clear a0 a1 a2 a3 a4 a5 a6 a7 a8 a9 f0 f1 f2 f3 f4 f5 f6 f7 f8 f9 A9
      obtain ⟨v9, hv9⟩ := mk_ ((((((((((u9.setCell ⟨w.heap.size, 0, none⟩ (.int .i64 x3.id)).setCell ⟨w.heap.size, 1, none⟩ (.int .i64 x3.po)).setCell ⟨w.heap.size, 2, none⟩ (.int .i64 x3.rg.ep)).setCell ⟨w.heap.size, 3, none⟩ (.int .i64 x3.rg.ow)).setCell ⟨w.heap.size, 4, none⟩ (.int .i64 x3.rg.pa)).setCell ⟨w.heap.size, 5, none⟩ (.slice x3.aT x3.two.length x3.cT)).setCell ⟨w.heap.size, 6, none⟩ (.slice x3.aN x3.net.length x3.cN)).setCell ⟨w.heap.size, 7, none⟩ (.slice x3.aG x3.ga.length x3.cG)).setCell ⟨w.heap.size, 8, none⟩ (.slice x3.aL x3.ln.length x3.cL)).setCell ⟨w.heap.size, 9, none⟩ (.slice x3.aS x3.sd.length x3.cS))
      rw [← hv9] at S9 ⊢
      have PZ_ := PZ_.keep (n := w.heap.size) (W2 := v9) (Nat.le_refl _) (fun g_ hg => by rw [hv9]; exact heap_put10 _ _ g_ _ hg) (by rw [hv9]; simp)
      clear hv9
      have S := S9
      clear S9
      have hP3 : Hid ((x3.p, (0 : Int)) = R) := by
       unfold Hid
       rw [hR.out]; unfold netX
       rw [if_neg hX0.out, if_neg h5.out, if_pos h3.out, hk.out, p3, hP.out]
       show _ = (heardX (setN x.p (x.net.take k ++ x.net.drop (k + 1))) (x.net.getD k Wi.nil), (0 : Int))
       rw [hv.out]
      clear p3
      obtain ⟨O9, B9⟩ := S.ret
      have P9 := S.pz PZ_ (by omega)
      have ZB := S.Z.box
      have cc := S.A.at_
      obtain ⟨a0, a1, a2, a3, a4, a5, a6, a7, a8, a9⟩ := cc
      obtain ⟨r0, r1, r2, r3, r4, r5, r6, r7, r8, r9, g0, g1, g2, g3, g4, g5, g6, g7, g8, g9⟩ := zten ZB
      clear S
      go_wp2
      refine bodyPost_ret (v := .tuple #[bvx x3, .int .i64 0]) (by simp [bvx, results, Try.results59, go_sem, *]) rfl ⟨x3, 0, rfl, by exact hP3.out, O9, B9, P9⟩
     ·
      have d3 : (d.k == 3) = false := by simpa using h3
      replace h3 : Hid (¬ d.k = 3) := h3
      have hP3 : Hid ((z.p, (0 : Int)) = R) := by
       unfold Hid
       rw [hR.out]; unfold netX
       rw [if_neg hX0.out, if_neg h5.out, if_neg h3.out, hk.out, hP.out]
       rfl
      obtain ⟨O9, B9⟩ := S.ret
      have P9 := S.pz PZ_ (by omega)
      have ZB := S.Z.box
      have cc := S.A.at_
      obtain ⟨a0, a1, a2, a3, a4, a5, a6, a7, a8, a9⟩ := cc
      obtain ⟨r0, r1, r2, r3, r4, r5, r6, r7, r8, r9, g0, g1, g2, g3, g4, g5, g6, g7, g8, g9⟩ := zten ZB
      clear S
      go_wp2
      refine bodyPost_ret (v := .tuple #[bvx z, .int .i64 0]) (by simp [bvx, results, Try.results59, go_sem, *]) rfl ⟨z, 0, rfl, by exact hP3.out, O9, B9, P9⟩
end Go.Proofs.Ytnpiljegdiconaa
