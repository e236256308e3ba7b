import Derived.Test.YtjmnaeeknomiaaaGreatDoorRKWBxd18
namespace Go.Proofs.YtjmnaeeknomiaaaGreatDoor
open Go.ChangeShapes Go.WideShapes Go.ChangeAt Go.RowKit
open Go.ChangeMaps (open_string shut_string)
set_option linter.unusedVariables false
set_option maxRecDepth 100000
set_option maxHeartbeats 32000000
set_option linter.unusedSimpArgs false
open Go.Proofs.Tryz
attribute [local go_sem] ji ja bc
theorem AI.takeN_ {X : Type} {enc : X → List Value} {w : World} {ad : Option Addr} {L : List X} (h : AI enc w ad L) (k : Nat) : AI enc w ad (L.take k) := by
 intro hp;obtain ⟨b, off, e, hc⟩ := h (by rw [List.length_take] at hp; omega);refine ⟨b, off, e, fun j v hv => hc j v ?_⟩;rw [← List.take_append_drop k L, Fo, List.getElem?_append_left (List.getElem?_eq_some_iff.1 hv).1];exact hv
theorem AI.dropN_ {X : Type} {enc : X → List Value} {n : Nat} (hn : ∀ x, (enc x).length = n) {w : World} {b : Nat} {L : List X} (h : AI enc w (some (ja b 0)) L) {k : Nat} (hk : k ≤ L.length) : AI enc w (some ⟨b, k * n, none⟩) (L.drop k) := by
 intro hp;obtain ⟨b', off', e, hc⟩ := h (by rw [List.length_drop] at hp; omega);cases e
 refine ⟨b, k * n, rfl, fun j v hv => ?_⟩;have hl : (AT enc (L.take k)).length = k * n := by rw [Ev hn, List.length_take, Nat.min_eq_left hk]
 have := hc (k * n + j) v (by
  rw [← List.take_append_drop k L, Fo, List.getElem?_append_right (by omega), hl];rw [show k * n + j - k * n = j by omega];exact hv)
 simpa using this
theorem Aa.other {base q z : Nat} {w W W2 : World} {x : AF} (h : Aa base q z w W x) {row : Option Nat} (gN : W.grownBy W2 row) (hr : ∀ b, row = some b → base ≤ b ∧ Ai b x ∧ b ≠ q ∧ b ≠ z) : Aa base q z w W2 x := by
 refine ⟨⟨h.O.t.keep (fun g e => gN.block g (h.O.t.lt g e).2 (fun e2 => (hr g e2.symm).2.1.t g e rfl)), fun j hj => (h.O.l j hj).keep (fun g e => gN.block g ((h.O.l j hj).lt g e).2 (fun e2 => (hr g e2.symm).2.1.l j hj g e rfl)), h.O.n.keep (fun g e => gN.block g (h.O.n.lt g e).2 (fun e2 => (hr g e2.symm).2.1.n g e rfl)), h.O.g.keep (fun g e => gN.block g (h.O.g.lt g e).2 (fun e2 => (hr g e2.symm).2.1.g g e rfl)), h.O.i.keep (fun g e => gN.block g (h.O.i.lt g e).2 (fun e2 => (hr g e2.symm).2.1.i g e rfl)), h.O.s.keep (fun g e => gN.block g (h.O.s.lt g e).2 (fun e2 => (hr g e2.symm).2.1.s g e rfl)), h.O.ap⟩, h.A.keep (gN.block _ h.A.lt (fun e2 => (hr _ e2.symm).2.2.1 rfl)), h.NA, h.Z.keep (gN.block _ (BR h.Z) (fun e2 => (hr _ e2.symm).2.2.2 rfl)), h.NZ, h.B.grown gN h.sz (fun k e => (hr k e).1), h.b0, h.bz, h.ne⟩
theorem Aa.turnX {base q z : Nat} {w W W2 : World} {x x3 : AF} (h : Aa base q z w W x) (O3 : AL base W2 x3) (B3 : Below base W W2) (P : Cf W W2 x x3) : AS W2 q x ∧ Aa base q z w ((((((((((W2.setCell (ja q 0) (ji x3.id)).setCell (ja q 1) (ji x3.po)).setCell (ja q 2) (ji x3.rg.ep)).setCell (ja q 3) (ji x3.rg.ow)).setCell (ja q 4) (ji x3.rg.pa)).setCell (ja q 5) (.slice x3.aT x3.two.length x3.cT)).setCell (ja q 6) (.slice x3.aN x3.net.length x3.cN)).setCell (ja q 7) (.slice x3.aG x3.ga.length x3.cG)).setCell (ja q 8) (.slice x3.aL x3.ln.length x3.cL)).setCell (ja q 9) (.slice x3.aS x3.sd.length x3.cS)) x3 := by
 have hq := P.2 q h.A.lt h.NA;have hz := P.2 z (BR h.Z) h.NZ;have A := h.A.keep hq.1;have Z := h.Z.keep hz.1;exact ⟨A, O3.keepQ hq.2 (fun g hg => Ak W2 q g x3 hg), A.put x3, hq.2, Z.keep (Ak W2 q z x3 h.ne), hz.2, CO (q := q) x3 (h.B.trans B3) h.b0, h.b0, h.bz, h.ne⟩
theorem F8 {b : Bx} (h : BA b = true) (k : Nat) : BA (Cr b (b.net.take k ++ b.net.drop (k + 1))) = true := by
 obtain ⟨h1, h2, h3, h4, h5, h6, h7, h8, h9, h10⟩ := Eb.1 h;refine Eb.2 ⟨h1, h2, h3, h4, h5, ?_, ?_, h8, h9, h10⟩
 ·
  rw [List.all_eq_true] at h6 ⊢;intro v hv;rcases List.mem_append.1 hv with e | e
  ·
   exact h6 v (List.mem_of_mem_take e)
  exact h6 v (List.mem_of_mem_drop e)
 show (b.net.take k ++ b.net.drop (k + 1)).length ≤ 20;rw [List.length_append, List.length_take, List.length_drop];omega
theorem F7 {b : Bx} (h : BA b = true) {k : Nat} (hk : k < b.net.length) : 0 ≤ (b.net.getD k Wi.nil).fr ∧ (b.net.getD k Wi.nil).fr ≤ 1 := by
 obtain ⟨_, _, _, _, _, h6, _⟩ := Eb.1 h;rw [List.all_eq_true] at h6;have e : b.net.getD k Wi.nil = b.net[k] := by simp [List.getD, hk]
 have := h6 (b.net.getD k Wi.nil) (by rw [e]; exact List.getElem_mem hk);unfold Bl at this;simp only [Bool.and_eq_true, decide_eq_true_eq] at this;exact this.1
theorem Cf.pz {w W : World} {x x3 : AF} {base : Nat} (P : Cf w W x x3) (O : AL base w x) : PZ w W := ⟨P.1, fun z hz => (P.2 z hz.lt_ ⟨fun b e e2 => O.t.notZ hz (by decide) (by rw [← e2]; exact e), fun b e e2 => O.n.notZ hz (by decide) (by rw [← e2]; exact e), fun b e e2 => O.g.notZ hz (by decide) (by rw [← e2]; exact e), fun b e e2 => O.i.notZ hz (by decide) (by rw [← e2]; exact e), fun b e e2 => O.s.notZ hz (by decide) (by rw [← e2]; exact e), fun j hj b e e2 => (O.l j hj).notZ hz (by decide) (by rw [← e2]; exact e)⟩).1.trans hz⟩
theorem Gv (x : AF) (d : De) (w : World) (base : Nat) (hO : AL base w x) (hbw : base ≤ w.heap.size) (hb : BA x.p = true) :
  Calls prog 144 #[.agg (bc x), .agg #[ji d.k, ji d.a, ji d.x.k, ji d.x.q, ji d.x.r, ji d.x.c, ji d.x.b, ji d.x.p, ji d.x.h, .bool d.x.up]] w fun e w' => ∃ x2 : AF, ∃ c : Int, e = .returned (.tuple #[.agg (bc x2), ji c]) ∧ (x2.p, c) = Dh x.p d ∧ AL base w' x2 ∧ Below base w w' ∧ PZ w w' := by
 obtain ⟨y, hy⟩ := AC (((w.alloc (Obj.cells (bc x) 63)).alloc (Obj.cells #[ji d.k, ji d.a, ji d.x.k, ji d.x.q, ji d.x.r, ji d.x.c, ji d.x.b, ji d.x.p, ji d.x.h, .bool d.x.up] 210)).alloc (Obj.cells #[ji 0, ji 0, ji 0, ji 0, ji 0, .slice none 0 0, .slice none 0 0, .slice none 0 0, .slice none 0 0, .slice none 0 0] 63));obtain ⟨S, D, B0, ND⟩ := GY x d w y hO hbw hy;have PZ_ := PZ.of B0;obtain ⟨hl2, hmi, hnl, _, _, _⟩ := EL hb;have hbk := hb;clear hb hO hmi hl2;obtain ⟨R, hR⟩ := AC (Dh x.p d);rw [← hR];replace hR : Hid _ := hR;replace hbk : Hid _ := hbk;obtain ⟨i1, hi1, hz10, hz11, hz12⟩ := info_parts Fs;have hwn : IntKind.i64.wrap ((x.net.length : Int) - 1) = (x.net.length : Int) - 1 := by rw [IntKind.wrap_i64]; omega
 go_enter func144, ntmps144
 go_upto_region 1 with fail
 rw [← hy];clear hy;have a0 := S.A.at_.all;have c1 := D.c1;go_wp2_with fail
 go_at_call 66
 clear a0 c1;refine (BE d.a 0 ((x.net.length : Int) - 1) y).mono ?_;rintro e u9 ⟨rfl, hw_⟩;rw [hw_];clear hw_ u9 hwn;cases hI : decide (0 ≤ d.a ∧ d.a ≤ (x.net.length : Int) - 1)
 ·
  have hI2 := of_decide_eq_false hI;have hX1 : Hid (d.a < 0 ∨ (x.p.net.length : Int) ≤ d.a) := by unfold Hid; have e9 : x.p.net.length = x.net.length := rfl; omega
  clear hI2;obtain ⟨O9, B9⟩ := S.ret;have P9 := S.pz PZ_ (by omega);have ZB := S.Z.box;have a0 := S.A.at_.all;have r0 := Ad ZB;clear S;go_wp2
  refine bodyPost_ret (v := .tuple #[AJ x, ji 2]) (by simp [AJ, results, results144, go_sem, *]) rfl ⟨x, 2, rfl, by rw [hR.out]; unfold Dh; rw [if_pos hX1.out], O9, B9, P9⟩
 have hI2 := of_decide_eq_true hI;obtain ⟨k, hk⟩ : ∃ k : Nat, d.a = (k : Int) := ⟨d.a.toNat, by omega⟩;have hkl : k < x.net.length := by omega
 have hX0 : Hid (¬ (d.a < 0 ∨ (x.p.net.length : Int) ≤ d.a)) := by unfold Hid; have e9 : x.p.net.length = x.net.length := rfl; omega
 clear hI2 hI;obtain ⟨gN, hat, _, gl⟩ := S.O.n.blk (by omega);obtain ⟨v, hv⟩ : ∃ v, x.net.getD k Wi.nil = v := ⟨_, rfl⟩;have E0 : Cw y gN (k * 12) v := by have h1 := S.O.n.view.2; rw [hat] at h1; have := He (h1.at_ CY Wi.nil hkl); rw [hv] at this; simpa using this
 have hcn := S.O.n.capM;replace hk : Hid _ := hk;replace hat : Hid _ := hat;replace hv : Hid _ := hv;obtain ⟨a0, a1, a2, a3, a4, a5, a6, a7, a8, a9⟩ := S.A.at_;rw [hat.out] at a6;have c1 := D.c1;rw [hk.out] at c1;obtain ⟨v0, v1, v2, v3, v4, v5, v6, v7, v8, v9, v10, v11⟩ := id E0;go_upto_region 4 with fail
 clear v0 v1 v2 v3 v4 v5 v6 v7 v8 v9 v10 v11 a0 a1 a2 a3 a4 a5 a6 a7 a8 a9 c1 E0;obtain ⟨u1, hu1, kq⟩ := AM y (Obj.cells #[ji v.fr, .bool v.ak, ji v.li, ji v.n, ji v.x.k, ji v.x.q, ji v.x.r, ji v.x.c, ji v.x.b, ji v.x.p, ji v.x.h, .bool v.x.up] 164);rw [← hu1];have We : EJ u1 y.heap.size v := by rw [hu1]; constructor <;> simp [go_sem]
 have NN : Ai y.heap.size x := S.O.ne (Nat.le_refl _);have nq := S.A.lt;have nd := D.lt;have nz := BR S.Z;clear hu1;have S := S.later kq;have PZ_ := PZ_.later kq;have D := D.below kq D.lt;obtain ⟨qn, hqn⟩ := AC y.heap.size;rw [← hqn] at We NN nq nz nd gl ⊢;clear hqn kq;have c0 := D.c0;by_cases h5 : d.k = 5
 ·
  have d5 : (d.k == 5) = true := by simpa using h5
  have a0 := S.A.at_.all;go_upto_region 5 with fail
  clear a0 c0 d5;replace h5 : Hid _ := h5;by_cases h20 : 20 ≤ x.net.length
  ·
   have d2 : decide ((20 : Int) ≤ (x.net.length : Int)) = true := decide_eq_true (by omega);obtain ⟨O9, B9⟩ := S.ret;have P9 := S.pz PZ_ (by omega);have ZB := S.Z.box;have a0 := S.A.at_.all;have r0 := Ad ZB;clear S;go_wp2
   refine bodyPost_ret (v := .tuple #[AJ x, ji 4]) (by simp [AJ, results, results144, go_sem, *]) rfl ⟨x, 4, rfl, by rw [hR.out]; unfold Dh; rw [if_neg hX0.out, if_pos h5.out, if_pos (by show 20 ≤ x.net.length; omega)], O9, B9, P9⟩
  have d2 : decide ((20 : Int) ≤ (x.net.length : Int)) = false := decide_eq_false (by omega);have kx : Bw u1 (u1.alloc (Obj.cells #[ji v.fr, .bool v.ak, ji v.li, ji v.n, ji v.x.k, ji v.x.q, ji v.x.r, ji v.x.c, ji v.x.b, ji v.x.p, ji v.x.h, .bool v.x.up] 164)) := Ax _;have V1 : AI As (u1.alloc (Obj.cells #[ji v.fr, .bool v.ak, ji v.li, ji v.n, ji v.x.k, ji v.x.q, ji v.x.r, ji v.x.c, ji v.x.b, ji v.x.p, ji v.x.h, .bool v.x.up] 164)) (some (ja u1.heap.size 0)) [v] := AI.oneW u1 _ v;have Sx := S.later kx;have PZx := PZ_.later kx;have szx := Sx.sz;have a0 := S.A.at_.all;have e0 := We.all;go_upto_region 7 with fail
  go_wp2_with (first | (at_builtin; refine En CY DR rfl _ _ 59 rfl base 164 i1 (.agg #[ji 0, .bool false, ji 0, ji 0, ji 0, ji 0, ji 0, ji 0, ji 0, ji 0, ji 0, .bool false]) 96 underlying59 hi1 hz10 hz11 hz12 rfl (by decide) (by decide) _ x.net rfl Sx.O.n (some (ja u1.heap.size 0)) 1 [v] rfl (fun e => by cases e) V1 ?z0 ?z1 ?_) | go_in)
  case z0 => simp; omega
  case z1 => exact szx
  intro vN v2 oN gN hob;replace oN : AA As 12 164 base v2 vN (x.net ++ [v]) := oN;obtain ⟨N_, hN_⟩ := AC (x.net ++ [v]);rw [← hN_] at oN;replace hN_ : Hid _ := hN_;clear e0 a0;have We := (We.below kx We.lt);have PZ_ := PZx.grown Sx.O.n (by decide) gN;obtain ⟨aN, cN, rfl, A2, S2, hno⟩ := Sx.addN N_ vN oN gN (hob.imp id (fun e => e.trans (by simp)));clear gN hob V1 Sx S oN hno kx d2;obtain ⟨⟨a0, a1, a2, a3, a4, a5, a6, a7, a8, a9⟩, af⟩ := id A2;have f6 := af 6;clear af;go_upto_region 8 with fail
  clear a0 a1 a2 a3 a4 a5 a6 a7 a8 a9 f6 A2;obtain ⟨v3, hv3⟩ := AC (v2.setCell (ja w.heap.size 6) (.slice aN N_.length cN));rw [← hv3] at S2 ⊢;have PZ_ := PZ_.keep (n := w.heap.size) (W2 := v3) (Nat.le_refl _) (fun g_ hg => by rw [hv3]; exact AE hg) (by rw [hv3]; simp);clear hv3;obtain ⟨z, hz⟩ : ∃ z : AF, z = { x with net := N_, aN := aN, cN := cN } := ⟨_, rfl⟩;rw [← hz] at S2;have hP : Hid ((z.p, (0 : Int)) = R) := by
   unfold Hid;rw [hR.out]; unfold Dh
   rw [if_neg hX0.out, if_pos h5.out, if_neg (by show ¬ 20 ≤ x.net.length; exact h20), hk.out, hz];show _ = (Cr x.p (x.net ++ [x.net.getD k Wi.nil]), (0 : Int));rw [hv.out, ← hN_.out];rfl
  clear hz;have S := S2;clear S2 We h20;obtain ⟨O9, B9⟩ := S.ret;have P9 := S.pz PZ_ (by omega);have ZB := S.Z.box;have a0 := S.A.at_.all;have r0 := Ad ZB;clear S;go_wp2
  refine bodyPost_ret (v := .tuple #[AJ z, ji 0]) (by simp [AJ, results, results144, go_sem, *]) rfl ⟨z, 0, rfl, by exact hP.out, O9, B9, P9⟩
 have d5 : (d.k == 5) = false := by simpa using h5
 replace h5 : Hid (¬ d.k = 5) := h5;go_upto_region 9 with fail
 clear c0 d5;have NEA : ∀ q, u1.heap.size ≤ q → Ai q x := fun q h => S.O.ne h
 have WeL := We.lt;have DL := D.lt;have lq := S.A.lt;have lz := BR S.Z;have ls := S.sz;obtain ⟨L1, hL1⟩ := AC (x.net.take k);obtain ⟨L2, hL2⟩ := AC (x.net.drop (k + 1));have hl1 : L1.length = k := by rw [hL1, List.length_take]; omega
 have hl2_ : L2.length = x.net.length - (k + 1) := by rw [hL2, List.length_drop]
 have lb1 : L1.length ≤ 20 := by omega
 have lb2 : L2.length ≤ 20 := by omega
 obtain ⟨ad2, hA2⟩ : ∃ a : Option Addr, Hid ((if x.cN = k + 1 then some (ja gN 0) else some ⟨gN, (k + 1) * 12, none⟩) = a) := ⟨_, rfl⟩;have hAn : ad2 ≠ none := by rw [← hA2.out]; split <;> simp
 have hvD : ∀ Y, Aa base w.heap.size (w.heap.size + 1 + 1) w Y x → AI As Y ad2 L2 := fun Y hY => by
  rw [← hA2.out, hL2];by_cases e : x.cN = k + 1
  ·
   rw [show x.net.drop (k + 1) = [] from List.drop_eq_nil_of_le (by omega)];exact AI.nil
  rw [if_neg e];have h1 := hY.O.n.view.2;rw [hat.out] at h1;exact h1.dropN_ CY (by omega)
 have hvT : ∀ Y, Aa base w.heap.size (w.heap.size + 1 + 1) w Y x → AI As Y (some (ja gN 0)) L1 := fun Y hY => by
  have h1 := hY.O.n.view.2;rw [hat.out] at h1;rw [hL1];exact h1.takeN_ k
 replace hL1 : Hid _ := hL1;replace hL2 : Hid _ := hL2;replace hl1 : Hid _ := hl1;replace hl2_ : Hid _ := hl2_;have w3 : IntKind.i64.wrap ((k : Int) + 1) = (k : Int) + 1 := by rw [IntKind.wrap_i64]; omega
 have k3a : 0 ≤ (k : Int) + 1 := by omega
 have k3b : k + 1 ≤ x.net.length := by omega
 have k3c : (k : Int) + 1 ≤ (x.net.length : Int) := by omega
 refine An (fun Y => Bt Y (w.heap.size + 1) d) fun v0 kd => ?_
 have S := S.later kd;have PZ_ := PZ_.later kd;have D := D.below kd D.lt;have We := We.below kd We.lt;have zv0 := kd.size;clear kd;refine tw 1 38 (.pointer (some (ja w.heap.size 6))) ?_;refine tw 3 40 (.pointer (some ⟨w.heap.size + 1, 1, none⟩)) ?_;refine tw 4 41 (ji (k : Int)) ?_ (hy := by intro Y hSw; have X1 := hSw.c1; rw [hk.out] at X1; go_simp);refine tw 7 44 (.pointer (some (ja w.heap.size 6))) ?_;refine tw 9 46 (.pointer (some ⟨w.heap.size + 1, 1, none⟩)) ?_;refine tw 10 47 (ji (k : Int)) ?_ (hy := by intro Y hSw; have X1 := hSw.c1; rw [hk.out] at X1; go_simp);refine tw 11 48 (ji ((k : Int) + 1)) ?_;have We0 : qn < u1.heap.size ∧ w.heap.size + 1 < u1.heap.size := ⟨WeL, DL⟩;refine wpAnyH_all (rs := [0, 2, 8]) (by kernel_rfl) (by simp) ?_;intro i hi; rcases (by simpa using hi : i = 0 ∨ i = 2 ∨ i = 8) with rfl | rfl | rfl
 focus
  refine Ac rfl fun Kz hKz => ?_
  go_simp
  obtain ⟨k0w, hU, kq⟩ := AM v0 (Obj.cells #[] 164);have E : AA As 12 164 u1.heap.size k0w (.slice (some (ja v0.heap.size 0)) 0 0) ([] : List Wi) := by rw [hU]; exact (AA.empty v0).base (by omega)
  have bE : ∀ b, (Value.slice (some (ja v0.heap.size 0)) 0 0).ownBlock = some b → u1.heap.size ≤ b := fun b e => (E.lt b e).1
  rw [← hU];clear hU;obtain ⟨qe, hqe⟩ := AC v0.heap.size;rw [← hqe] at E bE ⊢;clear hqe;have S := S.later kq;have PZ_ := PZ_.later kq;have D := D.below kq D.lt;have We := We.below kq We.lt;have zk0w := kq.size;clear kq;refine hKz _ _ ⟨D, ?_⟩;clear hKz Kz hi;refine wpAnyH_all (rs := [2, 8]) (by kernel_rfl) (by simp) ?_;intro i hi; rcases (by simpa using hi : i = 2 ∨ i = 8) with rfl | rfl
  ·
   refine Ac rfl fun Kz hKz => ?_
   obtain ⟨a0, a1, a2, a3, a4, a5, a6, a7, a8, a9⟩ := S.A.at_;rw [hat.out] at a6;go_simp
   clear a0 a1 a2 a3 a4 a5 a6 a7 a8 a9;refine hKz _ _ ⟨D, ?_⟩;clear hKz Kz hi;refine tw 5 42 (.slice (some (ja gN 0)) k x.cN) ?_ (hy := by intro Y hSw; go_simp; try omega);refine wpAnyH_all (rs := [6, 8]) (by kernel_rfl) (by simp) ?_;intro i hi; rcases (by simpa using hi : i = 6 ∨ i = 8) with rfl | rfl
   focus
    refine Ac rfl fun Kz hKz => ?_
    refine CC CY DR 43 _ _ 59 rfl rfl u1.heap.size 164 i1 (.agg #[ji 0, .bool false, ji 0, ji 0, ji 0, ji 0, ji 0, ji 0, ji 0, ji 0, ji 0, .bool false]) 96 underlying59 hi1 hz10 hz11 hz12 rfl (by decide) (by decide) (.slice (some (ja qe 0)) 0 0) ([] : List Wi) rfl E (some (ja gN 0)) x.cN L1 (by rw [hl1.out]; rfl) (fun e => by cases e) (hvT _ S) (by first | omega | (simp; omega)) (by omega) ?_;intro vE k1w E_ gN_ _;replace E_ : AA As 12 164 u1.heap.size k1w vE L1 := E_;have hr : ∀ b, (Value.ownBlock (.slice (some (ja qe 0)) 0 0)) = some b → base ≤ b ∧ Ai b x ∧ b ≠ w.heap.size ∧ b ≠ w.heap.size + 1 + 1 ∧ b ≠ w.heap.size + 1 ∧ b ≠ qn := fun b e => by have h := bE b e; have lw := We0; exact ⟨by omega, NEA b h, by omega, by omega, by omega, by omega⟩
    have PZ_ := PZ_.grown E (by decide) gN_;have S := S.other gN_ (fun b e => ⟨(hr b e).1, (hr b e).2.1, (hr b e).2.2.1, (hr b e).2.2.2.1⟩);have D := D.keep (gN_.block _ D.lt (fun e => (hr _ e.symm).2.2.2.2.1 rfl));have We := We.keep (gN_.block _ We.lt (fun e => (hr _ e.symm).2.2.2.2.2 rfl));have zk1w := gN_.size;have bE2 : ∀ b, (Value.ownBlock vE) = some b → u1.heap.size ≤ b := fun b e => (E_.lt b e).1
    clear E bE hr gN_;have E := E_;have bE := bE2;clear E_ bE2;simp only [List.set_cons_zero, List.set_cons_succ];refine hKz _ _ ⟨D, ?_⟩;clear hKz Kz hi;refine w1 8 fun Kz hKz => ?_
    obtain ⟨a0, a1, a2, a3, a4, a5, a6, a7, a8, a9⟩ := S.A.at_;rw [hat.out] at a6;go_simp
    clear a0 a1 a2 a3 a4 a5 a6 a7 a8 a9;refine hKz _ _ ⟨D, ?_⟩;clear hKz Kz;refine tw 12 49 (.slice ad2 (x.net.length - (k + 1)) (x.cN - (k + 1))) ?_ (hy := by intro Y hSw; go_simp; rw [hA2.out])
   rotate_left;focus
    refine Ac rfl fun Kz hKz => ?_
    obtain ⟨a0, a1, a2, a3, a4, a5, a6, a7, a8, a9⟩ := S.A.at_;rw [hat.out] at a6;go_simp
    clear a0 a1 a2 a3 a4 a5 a6 a7 a8 a9;refine hKz _ _ ⟨D, ?_⟩;clear hKz Kz hi;refine tw 12 49 (.slice ad2 (x.net.length - (k + 1)) (x.cN - (k + 1))) ?_ (hy := by intro Y hSw; go_simp; rw [hA2.out]);refine w1 6 fun Kz hKz => ?_
    refine CC CY DR 43 _ _ 59 rfl rfl u1.heap.size 164 i1 (.agg #[ji 0, .bool false, ji 0, ji 0, ji 0, ji 0, ji 0, ji 0, ji 0, ji 0, ji 0, .bool false]) 96 underlying59 hi1 hz10 hz11 hz12 rfl (by decide) (by decide) (.slice (some (ja qe 0)) 0 0) ([] : List Wi) rfl E (some (ja gN 0)) x.cN L1 (by rw [hl1.out]; rfl) (fun e => by cases e) (hvT _ S) (by first | omega | (simp; omega)) (by omega) ?_;intro vE k1w E_ gN_ _;replace E_ : AA As 12 164 u1.heap.size k1w vE L1 := E_;have hr : ∀ b, (Value.ownBlock (.slice (some (ja qe 0)) 0 0)) = some b → base ≤ b ∧ Ai b x ∧ b ≠ w.heap.size ∧ b ≠ w.heap.size + 1 + 1 ∧ b ≠ w.heap.size + 1 ∧ b ≠ qn := fun b e => by have h := bE b e; have lw := We0; exact ⟨by omega, NEA b h, by omega, by omega, by omega, by omega⟩
    have PZ_ := PZ_.grown E (by decide) gN_;have S := S.other gN_ (fun b e => ⟨(hr b e).1, (hr b e).2.1, (hr b e).2.2.1, (hr b e).2.2.2.1⟩);have D := D.keep (gN_.block _ D.lt (fun e => (hr _ e.symm).2.2.2.2.1 rfl));have We := We.keep (gN_.block _ We.lt (fun e => (hr _ e.symm).2.2.2.2.2 rfl));have zk1w := gN_.size;have bE2 : ∀ b, (Value.ownBlock vE) = some b → u1.heap.size ≤ b := fun b e => (E_.lt b e).1
    clear E bE hr gN_;have E := E_;have bE := bE2;clear E_ bE2;simp only [List.set_cons_zero, List.set_cons_succ];refine hKz _ _ ⟨D, ?_⟩;clear hKz Kz
   rotate_left;all_goals
    refine w1 13 fun Kz hKz => ?_
    refine CC CY DR 50 _ _ 59 rfl rfl u1.heap.size 164 i1 (.agg #[ji 0, .bool false, ji 0, ji 0, ji 0, ji 0, ji 0, ji 0, ji 0, ji 0, ji 0, .bool false]) 96 underlying59 hi1 hz10 hz11 hz12 rfl (by decide) (by decide) vE L1 rfl E ad2 (x.cN - (k + 1)) L2 (by rw [hl2_.out]; rfl) (fun e => absurd e hAn) (hvD _ S) (by first | omega | (simp; omega)) (by omega) ?_;intro vN k2w oN_ gN_ _;replace oN_ : AA As 12 164 u1.heap.size k2w vN (L1 ++ L2) := oN_;have hr : ∀ b, (Value.ownBlock vE) = some b → base ≤ b ∧ Ai b x ∧ b ≠ w.heap.size ∧ b ≠ w.heap.size + 1 + 1 ∧ b ≠ w.heap.size + 1 ∧ b ≠ qn := fun b e => by have h := bE b e; have lw := We0; exact ⟨by omega, NEA b h, by omega, by omega, by omega, by omega⟩
    have PZ_ := PZ_.grown E (by decide) gN_;have S := S.other gN_ (fun b e => ⟨(hr b e).1, (hr b e).2.1, (hr b e).2.2.1, (hr b e).2.2.2.1⟩);have D := D.keep (gN_.block _ D.lt (fun e => (hr _ e.symm).2.2.2.2.1 rfl));have We := We.keep (gN_.block _ We.lt (fun e => (hr _ e.symm).2.2.2.2.2 rfl));have zk2w := gN_.size;have bE2 : ∀ b, (Value.ownBlock vN) = some b → u1.heap.size ≤ b := fun b e => (oN_.lt b e).1
    clear E bE hr gN_;have oN := oN_;have bE := bE2;clear oN_ bE2;simp only [List.set_cons_zero, List.set_cons_succ];refine hKz _ _ ⟨D, ?_⟩;clear hKz Kz;refine tw 14 51 (.pointer (some (ja w.heap.size 6))) ?_;obtain ⟨N_, hN_⟩ := AC (L1 ++ L2);rw [← hN_] at oN;replace hN_ : Hid _ := hN_;obtain ⟨aN, cN, rfl⟩ := oN.open_;obtain ⟨A2, S2⟩ := S.putN N_ aN cN (oN.base ls) (fun _ _ _ => rfl) S.B (fun b e => ⟨by have := bE b e; omega, by have := bE b e; omega⟩);refine w1 15 fun Kz hKz => ?_
    obtain ⟨⟨a0, a1, a2, a3, a4, a5, a6, a7, a8, a9⟩, qf⟩ := id A2;have f6 := qf 6;go_simp
    clear a0 a1 a2 a3 a4 a5 a6 a7 a8 a9 qf f6 A2;obtain ⟨v3, hv3⟩ := AC (k2w.setCell (ja w.heap.size 6) (.slice aN N_.length cN));rw [← hv3] at S2 ⊢;have PZ_ := PZ_.keep (n := w.heap.size) (W2 := v3) (Nat.le_refl _) (fun g_ hg => by rw [hv3]; exact AE hg) (by rw [hv3]; simp);have kp : ∀ g_, g_ ≠ w.heap.size → v3.heap[g_]? = k2w.heap[g_]? := fun g_ hg => by rw [hv3]; exact AE hg
    have D := D.keep (kp _ (by omega));have We := We.keep (kp _ (by omega));refine hKz _ _ ⟨D, ?_⟩;clear hKz Kz hv3 kp S oN bE;refine Ag ?_;have S := S2;clear S2;obtain ⟨z, hz⟩ : ∃ z : AF, z = { x with net := N_, aN := aN, cN := cN } := ⟨_, rfl⟩;rw [← hz] at S;have hP : Hid (z.p = Cr x.p (x.net.take k ++ x.net.drop (k + 1))) := by unfold Hid; rw [hz, ← hL1.out, ← hL2.out, ← hN_.out]; rfl
    clear hz hN_;have c0 := D.c0;by_cases h3 : d.k = 3
    ·
     have d3 : (d.k == 3) = true := by simpa using h3
     go_upto_region 11 with fail
     clear c0 d3;replace h3 : Hid _ := h3;have a0 := S.A.at_.all;have e0 := We.all;go_wp2_with fail
     go_at_call 161
     clear e0 a0;have hbz : BA z.p = true := by rw [hP.out]; exact F8 hbk.out k
     have hfr : 0 ≤ v.fr ∧ v.fr ≤ 1 := by have h := F7 hbk.out (k := k) hkl; rw [show x.p.net = x.net from rfl, hv.out] at h; exact h
     refine (GK z v v3 base S.O S.sz hbz hfr).mono ?_;rintro e u9 ⟨x3, rfl, p3, O3, B3, P3⟩;have PZ_ := PZ_.trans (P3.pz S.O);obtain ⟨A9, S9⟩ := S.turnX O3 B3 P3;clear hbz hfr O3 B3 P3 S;obtain ⟨⟨a0, a1, a2, a3, a4, a5, a6, a7, a8, a9⟩, af⟩ := id A9;obtain ⟨f0, f1, f2, f3, f4, f5, f6, f7, f8, f9⟩ := CX af;clear af;go_upto_region 12 with fail
     clear a0 a1 a2 a3 a4 a5 a6 a7 a8 a9 f0 f1 f2 f3 f4 f5 f6 f7 f8 f9 A9;obtain ⟨v9, hv9⟩ := AC ((((((((((u9.setCell (ja w.heap.size 0) (ji x3.id)).setCell (ja w.heap.size 1) (ji x3.po)).setCell (ja w.heap.size 2) (ji x3.rg.ep)).setCell (ja w.heap.size 3) (ji x3.rg.ow)).setCell (ja w.heap.size 4) (ji x3.rg.pa)).setCell (ja w.heap.size 5) (.slice x3.aT x3.two.length x3.cT)).setCell (ja w.heap.size 6) (.slice x3.aN x3.net.length x3.cN)).setCell (ja w.heap.size 7) (.slice x3.aG x3.ga.length x3.cG)).setCell (ja w.heap.size 8) (.slice x3.aL x3.ln.length x3.cL)).setCell (ja w.heap.size 9) (.slice x3.aS x3.sd.length x3.cS));rw [← hv9] at S9 ⊢;have PZ_ := PZ_.keep (n := w.heap.size) (W2 := v9) (Nat.le_refl _) (fun g_ hg => by rw [hv9]; exact Ak _ _ g_ _ hg) (by rw [hv9]; simp);clear hv9;have S := S9;clear S9;have hP3 : Hid ((x3.p, (0 : Int)) = R) := by
      unfold Hid;rw [hR.out]; unfold Dh
      rw [if_neg hX0.out, if_neg h5.out, if_pos h3.out, hk.out, p3, hP.out];show _ = (Co (Cr x.p (x.net.take k ++ x.net.drop (k + 1))) (x.net.getD k Wi.nil), (0 : Int));rw [hv.out]
     clear p3;obtain ⟨O9, B9⟩ := S.ret;have P9 := S.pz PZ_ (by omega);have ZB := S.Z.box;have a0 := S.A.at_.all;have r0 := Ad ZB;clear S;go_wp2
     refine bodyPost_ret (v := .tuple #[AJ x3, ji 0]) (by simp [AJ, results, results144, go_sem, *]) rfl ⟨x3, 0, rfl, by exact hP3.out, O9, B9, P9⟩
    ·
     have d3 : (d.k == 3) = false := by simpa using h3
     replace h3 : Hid (¬ d.k = 3) := h3;have hP3 : Hid ((z.p, (0 : Int)) = R) := by
      unfold Hid;rw [hR.out]; unfold Dh
      rw [if_neg hX0.out, if_neg h5.out, if_neg h3.out, hk.out, hP.out];rfl
     obtain ⟨O9, B9⟩ := S.ret;have P9 := S.pz PZ_ (by omega);have ZB := S.Z.box;have a0 := S.A.at_.all;have r0 := Ad ZB;clear S;go_wp2
     refine bodyPost_ret (v := .tuple #[AJ z, ji 0]) (by simp [AJ, results, results144, go_sem, *]) rfl ⟨z, 0, rfl, by exact hP3.out, O9, B9, P9⟩
  focus
   refine Ac rfl fun Kz hKz => ?_
   obtain ⟨a0, a1, a2, a3, a4, a5, a6, a7, a8, a9⟩ := S.A.at_;rw [hat.out] at a6;go_simp
   clear a0 a1 a2 a3 a4 a5 a6 a7 a8 a9;refine hKz _ _ ⟨D, ?_⟩;clear hKz Kz hi;refine tw 12 49 (.slice ad2 (x.net.length - (k + 1)) (x.cN - (k + 1))) ?_ (hy := by intro Y hSw; go_simp; rw [hA2.out]);refine w1 2 fun Kz hKz => ?_
   obtain ⟨a0, a1, a2, a3, a4, a5, a6, a7, a8, a9⟩ := S.A.at_;rw [hat.out] at a6;go_simp
   clear a0 a1 a2 a3 a4 a5 a6 a7 a8 a9;refine hKz _ _ ⟨D, ?_⟩;clear hKz Kz;refine tw 5 42 (.slice (some (ja gN 0)) k x.cN) ?_ (hy := by intro Y hSw; go_simp; try omega)
  rotate_left
 rotate_left;focus
  refine Ac rfl fun Kz hKz => ?_
  obtain ⟨a0, a1, a2, a3, a4, a5, a6, a7, a8, a9⟩ := S.A.at_;rw [hat.out] at a6;go_simp
  clear a0 a1 a2 a3 a4 a5 a6 a7 a8 a9;refine hKz _ _ ⟨D, ?_⟩;clear hKz Kz hi;refine tw 5 42 (.slice (some (ja gN 0)) k x.cN) ?_ (hy := by intro Y hSw; go_simp; try omega);refine wpAnyH_all (rs := [0, 8]) (by kernel_rfl) (by simp) ?_;intro i hi; rcases (by simpa using hi : i = 0 ∨ i = 8) with rfl | rfl
  ·
   refine Ac rfl fun Kz hKz => ?_
   go_simp
   obtain ⟨k0w, hU, kq⟩ := AM v0 (Obj.cells #[] 164);have E : AA As 12 164 u1.heap.size k0w (.slice (some (ja v0.heap.size 0)) 0 0) ([] : List Wi) := by rw [hU]; exact (AA.empty v0).base (by omega)
   have bE : ∀ b, (Value.slice (some (ja v0.heap.size 0)) 0 0).ownBlock = some b → u1.heap.size ≤ b := fun b e => (E.lt b e).1
   rw [← hU];clear hU;obtain ⟨qe, hqe⟩ := AC v0.heap.size;rw [← hqe] at E bE ⊢;clear hqe;have S := S.later kq;have PZ_ := PZ_.later kq;have D := D.below kq D.lt;have We := We.below kq We.lt;have zk0w := kq.size;clear kq;refine hKz _ _ ⟨D, ?_⟩;clear hKz Kz hi;refine wpAnyH_all (rs := [6, 8]) (by kernel_rfl) (by simp) ?_;intro i hi; rcases (by simpa using hi : i = 6 ∨ i = 8) with rfl | rfl
   focus
    refine Ac rfl fun Kz hKz => ?_
    refine CC CY DR 43 _ _ 59 rfl rfl u1.heap.size 164 i1 (.agg #[ji 0, .bool false, ji 0, ji 0, ji 0, ji 0, ji 0, ji 0, ji 0, ji 0, ji 0, .bool false]) 96 underlying59 hi1 hz10 hz11 hz12 rfl (by decide) (by decide) (.slice (some (ja qe 0)) 0 0) ([] : List Wi) rfl E (some (ja gN 0)) x.cN L1 (by rw [hl1.out]; rfl) (fun e => by cases e) (hvT _ S) (by first | omega | (simp; omega)) (by omega) ?_;intro vE k1w E_ gN_ _;replace E_ : AA As 12 164 u1.heap.size k1w vE L1 := E_;have hr : ∀ b, (Value.ownBlock (.slice (some (ja qe 0)) 0 0)) = some b → base ≤ b ∧ Ai b x ∧ b ≠ w.heap.size ∧ b ≠ w.heap.size + 1 + 1 ∧ b ≠ w.heap.size + 1 ∧ b ≠ qn := fun b e => by have h := bE b e; have lw := We0; exact ⟨by omega, NEA b h, by omega, by omega, by omega, by omega⟩
    have PZ_ := PZ_.grown E (by decide) gN_;have S := S.other gN_ (fun b e => ⟨(hr b e).1, (hr b e).2.1, (hr b e).2.2.1, (hr b e).2.2.2.1⟩);have D := D.keep (gN_.block _ D.lt (fun e => (hr _ e.symm).2.2.2.2.1 rfl));have We := We.keep (gN_.block _ We.lt (fun e => (hr _ e.symm).2.2.2.2.2 rfl));have zk1w := gN_.size;have bE2 : ∀ b, (Value.ownBlock vE) = some b → u1.heap.size ≤ b := fun b e => (E_.lt b e).1
    clear E bE hr gN_;have E := E_;have bE := bE2;clear E_ bE2;simp only [List.set_cons_zero, List.set_cons_succ];refine hKz _ _ ⟨D, ?_⟩;clear hKz Kz hi;refine w1 8 fun Kz hKz => ?_
    obtain ⟨a0, a1, a2, a3, a4, a5, a6, a7, a8, a9⟩ := S.A.at_;rw [hat.out] at a6;go_simp
    clear a0 a1 a2 a3 a4 a5 a6 a7 a8 a9;refine hKz _ _ ⟨D, ?_⟩;clear hKz Kz;refine tw 12 49 (.slice ad2 (x.net.length - (k + 1)) (x.cN - (k + 1))) ?_ (hy := by intro Y hSw; go_simp; rw [hA2.out])
   rotate_left;focus
    refine Ac rfl fun Kz hKz => ?_
    obtain ⟨a0, a1, a2, a3, a4, a5, a6, a7, a8, a9⟩ := S.A.at_;rw [hat.out] at a6;go_simp
    clear a0 a1 a2 a3 a4 a5 a6 a7 a8 a9;refine hKz _ _ ⟨D, ?_⟩;clear hKz Kz hi;refine tw 12 49 (.slice ad2 (x.net.length - (k + 1)) (x.cN - (k + 1))) ?_ (hy := by intro Y hSw; go_simp; rw [hA2.out]);refine w1 6 fun Kz hKz => ?_
    refine CC CY DR 43 _ _ 59 rfl rfl u1.heap.size 164 i1 (.agg #[ji 0, .bool false, ji 0, ji 0, ji 0, ji 0, ji 0, ji 0, ji 0, ji 0, ji 0, .bool false]) 96 underlying59 hi1 hz10 hz11 hz12 rfl (by decide) (by decide) (.slice (some (ja qe 0)) 0 0) ([] : List Wi) rfl E (some (ja gN 0)) x.cN L1 (by rw [hl1.out]; rfl) (fun e => by cases e) (hvT _ S) (by first | omega | (simp; omega)) (by omega) ?_;intro vE k1w E_ gN_ _;replace E_ : AA As 12 164 u1.heap.size k1w vE L1 := E_;have hr : ∀ b, (Value.ownBlock (.slice (some (ja qe 0)) 0 0)) = some b → base ≤ b ∧ Ai b x ∧ b ≠ w.heap.size ∧ b ≠ w.heap.size + 1 + 1 ∧ b ≠ w.heap.size + 1 ∧ b ≠ qn := fun b e => by have h := bE b e; have lw := We0; exact ⟨by omega, NEA b h, by omega, by omega, by omega, by omega⟩
    have PZ_ := PZ_.grown E (by decide) gN_;have S := S.other gN_ (fun b e => ⟨(hr b e).1, (hr b e).2.1, (hr b e).2.2.1, (hr b e).2.2.2.1⟩);have D := D.keep (gN_.block _ D.lt (fun e => (hr _ e.symm).2.2.2.2.1 rfl));have We := We.keep (gN_.block _ We.lt (fun e => (hr _ e.symm).2.2.2.2.2 rfl));have zk1w := gN_.size;have bE2 : ∀ b, (Value.ownBlock vE) = some b → u1.heap.size ≤ b := fun b e => (E_.lt b e).1
    clear E bE hr gN_;have E := E_;have bE := bE2;clear E_ bE2;simp only [List.set_cons_zero, List.set_cons_succ];refine hKz _ _ ⟨D, ?_⟩;clear hKz Kz
   rotate_left;all_goals
    refine w1 13 fun Kz hKz => ?_
    refine CC CY DR 50 _ _ 59 rfl rfl u1.heap.size 164 i1 (.agg #[ji 0, .bool false, ji 0, ji 0, ji 0, ji 0, ji 0, ji 0, ji 0, ji 0, ji 0, .bool false]) 96 underlying59 hi1 hz10 hz11 hz12 rfl (by decide) (by decide) vE L1 rfl E ad2 (x.cN - (k + 1)) L2 (by rw [hl2_.out]; rfl) (fun e => absurd e hAn) (hvD _ S) (by first | omega | (simp; omega)) (by omega) ?_;intro vN k2w oN_ gN_ _;replace oN_ : AA As 12 164 u1.heap.size k2w vN (L1 ++ L2) := oN_;have hr : ∀ b, (Value.ownBlock vE) = some b → base ≤ b ∧ Ai b x ∧ b ≠ w.heap.size ∧ b ≠ w.heap.size + 1 + 1 ∧ b ≠ w.heap.size + 1 ∧ b ≠ qn := fun b e => by have h := bE b e; have lw := We0; exact ⟨by omega, NEA b h, by omega, by omega, by omega, by omega⟩
    have PZ_ := PZ_.grown E (by decide) gN_;have S := S.other gN_ (fun b e => ⟨(hr b e).1, (hr b e).2.1, (hr b e).2.2.1, (hr b e).2.2.2.1⟩);have D := D.keep (gN_.block _ D.lt (fun e => (hr _ e.symm).2.2.2.2.1 rfl));have We := We.keep (gN_.block _ We.lt (fun e => (hr _ e.symm).2.2.2.2.2 rfl));have zk2w := gN_.size;have bE2 : ∀ b, (Value.ownBlock vN) = some b → u1.heap.size ≤ b := fun b e => (oN_.lt b e).1
    clear E bE hr gN_;have oN := oN_;have bE := bE2;clear oN_ bE2;simp only [List.set_cons_zero, List.set_cons_succ];refine hKz _ _ ⟨D, ?_⟩;clear hKz Kz;refine tw 14 51 (.pointer (some (ja w.heap.size 6))) ?_;obtain ⟨N_, hN_⟩ := AC (L1 ++ L2);rw [← hN_] at oN;replace hN_ : Hid _ := hN_;obtain ⟨aN, cN, rfl⟩ := oN.open_;obtain ⟨A2, S2⟩ := S.putN N_ aN cN (oN.base ls) (fun _ _ _ => rfl) S.B (fun b e => ⟨by have := bE b e; omega, by have := bE b e; omega⟩);refine w1 15 fun Kz hKz => ?_
    obtain ⟨⟨a0, a1, a2, a3, a4, a5, a6, a7, a8, a9⟩, qf⟩ := id A2;have f6 := qf 6;go_simp
    clear a0 a1 a2 a3 a4 a5 a6 a7 a8 a9 qf f6 A2;obtain ⟨v3, hv3⟩ := AC (k2w.setCell (ja w.heap.size 6) (.slice aN N_.length cN));rw [← hv3] at S2 ⊢;have PZ_ := PZ_.keep (n := w.heap.size) (W2 := v3) (Nat.le_refl _) (fun g_ hg => by rw [hv3]; exact AE hg) (by rw [hv3]; simp);have kp : ∀ g_, g_ ≠ w.heap.size → v3.heap[g_]? = k2w.heap[g_]? := fun g_ hg => by rw [hv3]; exact AE hg
    have D := D.keep (kp _ (by omega));have We := We.keep (kp _ (by omega));refine hKz _ _ ⟨D, ?_⟩;clear hKz Kz hv3 kp S oN bE;refine Ag ?_;have S := S2;clear S2;obtain ⟨z, hz⟩ : ∃ z : AF, z = { x with net := N_, aN := aN, cN := cN } := ⟨_, rfl⟩;rw [← hz] at S;have hP : Hid (z.p = Cr x.p (x.net.take k ++ x.net.drop (k + 1))) := by unfold Hid; rw [hz, ← hL1.out, ← hL2.out, ← hN_.out]; rfl
    clear hz hN_;have c0 := D.c0;by_cases h3 : d.k = 3
    ·
     have d3 : (d.k == 3) = true := by simpa using h3
     go_upto_region 11 with fail
     clear c0 d3;replace h3 : Hid _ := h3;have a0 := S.A.at_.all;have e0 := We.all;go_wp2_with fail
     go_at_call 161
     clear e0 a0;have hbz : BA z.p = true := by rw [hP.out]; exact F8 hbk.out k
     have hfr : 0 ≤ v.fr ∧ v.fr ≤ 1 := by have h := F7 hbk.out (k := k) hkl; rw [show x.p.net = x.net from rfl, hv.out] at h; exact h
     refine (GK z v v3 base S.O S.sz hbz hfr).mono ?_;rintro e u9 ⟨x3, rfl, p3, O3, B3, P3⟩;have PZ_ := PZ_.trans (P3.pz S.O);obtain ⟨A9, S9⟩ := S.turnX O3 B3 P3;clear hbz hfr O3 B3 P3 S;obtain ⟨⟨a0, a1, a2, a3, a4, a5, a6, a7, a8, a9⟩, af⟩ := id A9;obtain ⟨f0, f1, f2, f3, f4, f5, f6, f7, f8, f9⟩ := CX af;clear af;go_upto_region 12 with fail
     clear a0 a1 a2 a3 a4 a5 a6 a7 a8 a9 f0 f1 f2 f3 f4 f5 f6 f7 f8 f9 A9;obtain ⟨v9, hv9⟩ := AC ((((((((((u9.setCell (ja w.heap.size 0) (ji x3.id)).setCell (ja w.heap.size 1) (ji x3.po)).setCell (ja w.heap.size 2) (ji x3.rg.ep)).setCell (ja w.heap.size 3) (ji x3.rg.ow)).setCell (ja w.heap.size 4) (ji x3.rg.pa)).setCell (ja w.heap.size 5) (.slice x3.aT x3.two.length x3.cT)).setCell (ja w.heap.size 6) (.slice x3.aN x3.net.length x3.cN)).setCell (ja w.heap.size 7) (.slice x3.aG x3.ga.length x3.cG)).setCell (ja w.heap.size 8) (.slice x3.aL x3.ln.length x3.cL)).setCell (ja w.heap.size 9) (.slice x3.aS x3.sd.length x3.cS));rw [← hv9] at S9 ⊢;have PZ_ := PZ_.keep (n := w.heap.size) (W2 := v9) (Nat.le_refl _) (fun g_ hg => by rw [hv9]; exact Ak _ _ g_ _ hg) (by rw [hv9]; simp);clear hv9;have S := S9;clear S9;have hP3 : Hid ((x3.p, (0 : Int)) = R) := by
      unfold Hid;rw [hR.out]; unfold Dh
      rw [if_neg hX0.out, if_neg h5.out, if_pos h3.out, hk.out, p3, hP.out];show _ = (Co (Cr x.p (x.net.take k ++ x.net.drop (k + 1))) (x.net.getD k Wi.nil), (0 : Int));rw [hv.out]
     clear p3;obtain ⟨O9, B9⟩ := S.ret;have P9 := S.pz PZ_ (by omega);have ZB := S.Z.box;have a0 := S.A.at_.all;have r0 := Ad ZB;clear S;go_wp2
     refine bodyPost_ret (v := .tuple #[AJ x3, ji 0]) (by simp [AJ, results, results144, go_sem, *]) rfl ⟨x3, 0, rfl, by exact hP3.out, O9, B9, P9⟩
    ·
     have d3 : (d.k == 3) = false := by simpa using h3
     replace h3 : Hid (¬ d.k = 3) := h3;have hP3 : Hid ((z.p, (0 : Int)) = R) := by
      unfold Hid;rw [hR.out]; unfold Dh
      rw [if_neg hX0.out, if_neg h5.out, if_neg h3.out, hk.out, hP.out];rfl
     obtain ⟨O9, B9⟩ := S.ret;have P9 := S.pz PZ_ (by omega);have ZB := S.Z.box;have a0 := S.A.at_.all;have r0 := Ad ZB;clear S;go_wp2
     refine bodyPost_ret (v := .tuple #[AJ z, ji 0]) (by simp [AJ, results, results144, go_sem, *]) rfl ⟨z, 0, rfl, by exact hP3.out, O9, B9, P9⟩
  focus
   refine Ac rfl fun Kz hKz => ?_
   obtain ⟨a0, a1, a2, a3, a4, a5, a6, a7, a8, a9⟩ := S.A.at_;rw [hat.out] at a6;go_simp
   clear a0 a1 a2 a3 a4 a5 a6 a7 a8 a9;refine hKz _ _ ⟨D, ?_⟩;clear hKz Kz hi;refine tw 12 49 (.slice ad2 (x.net.length - (k + 1)) (x.cN - (k + 1))) ?_ (hy := by intro Y hSw; go_simp; rw [hA2.out]);refine w1 0 fun Kz hKz => ?_
   go_simp
   obtain ⟨k0w, hU, kq⟩ := AM v0 (Obj.cells #[] 164);have E : AA As 12 164 u1.heap.size k0w (.slice (some (ja v0.heap.size 0)) 0 0) ([] : List Wi) := by rw [hU]; exact (AA.empty v0).base (by omega)
   have bE : ∀ b, (Value.slice (some (ja v0.heap.size 0)) 0 0).ownBlock = some b → u1.heap.size ≤ b := fun b e => (E.lt b e).1
   rw [← hU];clear hU;obtain ⟨qe, hqe⟩ := AC v0.heap.size;rw [← hqe] at E bE ⊢;clear hqe;have S := S.later kq;have PZ_ := PZ_.later kq;have D := D.below kq D.lt;have We := We.below kq We.lt;have zk0w := kq.size;clear kq;refine hKz _ _ ⟨D, ?_⟩;clear hKz Kz
  rotate_left
 rotate_left
 ·
  refine Ac rfl fun Kz hKz => ?_
  obtain ⟨a0, a1, a2, a3, a4, a5, a6, a7, a8, a9⟩ := S.A.at_;rw [hat.out] at a6;go_simp
  clear a0 a1 a2 a3 a4 a5 a6 a7 a8 a9;refine hKz _ _ ⟨D, ?_⟩;clear hKz Kz hi;refine tw 12 49 (.slice ad2 (x.net.length - (k + 1)) (x.cN - (k + 1))) ?_ (hy := by intro Y hSw; go_simp; rw [hA2.out]);refine wpAnyH_all (rs := [0, 2]) (by kernel_rfl) (by simp) ?_;intro i hi; rcases (by simpa using hi : i = 0 ∨ i = 2) with rfl | rfl
  focus
   refine Ac rfl fun Kz hKz => ?_
   go_simp
   obtain ⟨k0w, hU, kq⟩ := AM v0 (Obj.cells #[] 164);have E : AA As 12 164 u1.heap.size k0w (.slice (some (ja v0.heap.size 0)) 0 0) ([] : List Wi) := by rw [hU]; exact (AA.empty v0).base (by omega)
   have bE : ∀ b, (Value.slice (some (ja v0.heap.size 0)) 0 0).ownBlock = some b → u1.heap.size ≤ b := fun b e => (E.lt b e).1
   rw [← hU];clear hU;obtain ⟨qe, hqe⟩ := AC v0.heap.size;rw [← hqe] at E bE ⊢;clear hqe;have S := S.later kq;have PZ_ := PZ_.later kq;have D := D.below kq D.lt;have We := We.below kq We.lt;have zk0w := kq.size;clear kq;refine hKz _ _ ⟨D, ?_⟩;clear hKz Kz hi;refine w1 2 fun Kz hKz => ?_
   obtain ⟨a0, a1, a2, a3, a4, a5, a6, a7, a8, a9⟩ := S.A.at_;rw [hat.out] at a6;go_simp
   clear a0 a1 a2 a3 a4 a5 a6 a7 a8 a9;refine hKz _ _ ⟨D, ?_⟩;clear hKz Kz;refine tw 5 42 (.slice (some (ja gN 0)) k x.cN) ?_ (hy := by intro Y hSw; go_simp; try omega)
  rotate_left;focus
   refine Ac rfl fun Kz hKz => ?_
   obtain ⟨a0, a1, a2, a3, a4, a5, a6, a7, a8, a9⟩ := S.A.at_;rw [hat.out] at a6;go_simp
   clear a0 a1 a2 a3 a4 a5 a6 a7 a8 a9;refine hKz _ _ ⟨D, ?_⟩;clear hKz Kz hi;refine tw 5 42 (.slice (some (ja gN 0)) k x.cN) ?_ (hy := by intro Y hSw; go_simp; try omega);refine w1 0 fun Kz hKz => ?_
   go_simp
   obtain ⟨k0w, hU, kq⟩ := AM v0 (Obj.cells #[] 164);have E : AA As 12 164 u1.heap.size k0w (.slice (some (ja v0.heap.size 0)) 0 0) ([] : List Wi) := by rw [hU]; exact (AA.empty v0).base (by omega)
   have bE : ∀ b, (Value.slice (some (ja v0.heap.size 0)) 0 0).ownBlock = some b → u1.heap.size ≤ b := fun b e => (E.lt b e).1
   rw [← hU];clear hU;obtain ⟨qe, hqe⟩ := AC v0.heap.size;rw [← hqe] at E bE ⊢;clear hqe;have S := S.later kq;have PZ_ := PZ_.later kq;have D := D.below kq D.lt;have We := We.below kq We.lt;have zk0w := kq.size;clear kq;refine hKz _ _ ⟨D, ?_⟩;clear hKz Kz
  rotate_left;all_goals
   refine w1 6 fun Kz hKz => ?_
   refine CC CY DR 43 _ _ 59 rfl rfl u1.heap.size 164 i1 (.agg #[ji 0, .bool false, ji 0, ji 0, ji 0, ji 0, ji 0, ji 0, ji 0, ji 0, ji 0, .bool false]) 96 underlying59 hi1 hz10 hz11 hz12 rfl (by decide) (by decide) (.slice (some (ja qe 0)) 0 0) ([] : List Wi) rfl E (some (ja gN 0)) x.cN L1 (by rw [hl1.out]; rfl) (fun e => by cases e) (hvT _ S) (by first | omega | (simp; omega)) (by omega) ?_;intro vE k1w E_ gN_ _;replace E_ : AA As 12 164 u1.heap.size k1w vE L1 := E_;have hr : ∀ b, (Value.ownBlock (.slice (some (ja qe 0)) 0 0)) = some b → base ≤ b ∧ Ai b x ∧ b ≠ w.heap.size ∧ b ≠ w.heap.size + 1 + 1 ∧ b ≠ w.heap.size + 1 ∧ b ≠ qn := fun b e => by have h := bE b e; have lw := We0; exact ⟨by omega, NEA b h, by omega, by omega, by omega, by omega⟩
   have PZ_ := PZ_.grown E (by decide) gN_;have S := S.other gN_ (fun b e => ⟨(hr b e).1, (hr b e).2.1, (hr b e).2.2.1, (hr b e).2.2.2.1⟩);have D := D.keep (gN_.block _ D.lt (fun e => (hr _ e.symm).2.2.2.2.1 rfl));have We := We.keep (gN_.block _ We.lt (fun e => (hr _ e.symm).2.2.2.2.2 rfl));have zk1w := gN_.size;have bE2 : ∀ b, (Value.ownBlock vE) = some b → u1.heap.size ≤ b := fun b e => (E_.lt b e).1
   clear E bE hr gN_;have E := E_;have bE := bE2;clear E_ bE2;simp only [List.set_cons_zero, List.set_cons_succ];refine hKz _ _ ⟨D, ?_⟩;clear hKz Kz;refine w1 13 fun Kz hKz => ?_
   refine CC CY DR 50 _ _ 59 rfl rfl u1.heap.size 164 i1 (.agg #[ji 0, .bool false, ji 0, ji 0, ji 0, ji 0, ji 0, ji 0, ji 0, ji 0, ji 0, .bool false]) 96 underlying59 hi1 hz10 hz11 hz12 rfl (by decide) (by decide) vE L1 rfl E ad2 (x.cN - (k + 1)) L2 (by rw [hl2_.out]; rfl) (fun e => absurd e hAn) (hvD _ S) (by first | omega | (simp; omega)) (by omega) ?_;intro vN k2w oN_ gN_ _;replace oN_ : AA As 12 164 u1.heap.size k2w vN (L1 ++ L2) := oN_;have hr : ∀ b, (Value.ownBlock vE) = some b → base ≤ b ∧ Ai b x ∧ b ≠ w.heap.size ∧ b ≠ w.heap.size + 1 + 1 ∧ b ≠ w.heap.size + 1 ∧ b ≠ qn := fun b e => by have h := bE b e; have lw := We0; exact ⟨by omega, NEA b h, by omega, by omega, by omega, by omega⟩
   have PZ_ := PZ_.grown E (by decide) gN_;have S := S.other gN_ (fun b e => ⟨(hr b e).1, (hr b e).2.1, (hr b e).2.2.1, (hr b e).2.2.2.1⟩);have D := D.keep (gN_.block _ D.lt (fun e => (hr _ e.symm).2.2.2.2.1 rfl));have We := We.keep (gN_.block _ We.lt (fun e => (hr _ e.symm).2.2.2.2.2 rfl));have zk2w := gN_.size;have bE2 : ∀ b, (Value.ownBlock vN) = some b → u1.heap.size ≤ b := fun b e => (oN_.lt b e).1
   clear E bE hr gN_;have oN := oN_;have bE := bE2;clear oN_ bE2;simp only [List.set_cons_zero, List.set_cons_succ];refine hKz _ _ ⟨D, ?_⟩;clear hKz Kz;refine tw 14 51 (.pointer (some (ja w.heap.size 6))) ?_;obtain ⟨N_, hN_⟩ := AC (L1 ++ L2);rw [← hN_] at oN;replace hN_ : Hid _ := hN_;obtain ⟨aN, cN, rfl⟩ := oN.open_;obtain ⟨A2, S2⟩ := S.putN N_ aN cN (oN.base ls) (fun _ _ _ => rfl) S.B (fun b e => ⟨by have := bE b e; omega, by have := bE b e; omega⟩);refine w1 15 fun Kz hKz => ?_
   obtain ⟨⟨a0, a1, a2, a3, a4, a5, a6, a7, a8, a9⟩, qf⟩ := id A2;have f6 := qf 6;go_simp
   clear a0 a1 a2 a3 a4 a5 a6 a7 a8 a9 qf f6 A2;obtain ⟨v3, hv3⟩ := AC (k2w.setCell (ja w.heap.size 6) (.slice aN N_.length cN));rw [← hv3] at S2 ⊢;have PZ_ := PZ_.keep (n := w.heap.size) (W2 := v3) (Nat.le_refl _) (fun g_ hg => by rw [hv3]; exact AE hg) (by rw [hv3]; simp);have kp : ∀ g_, g_ ≠ w.heap.size → v3.heap[g_]? = k2w.heap[g_]? := fun g_ hg => by rw [hv3]; exact AE hg
   have D := D.keep (kp _ (by omega));have We := We.keep (kp _ (by omega));refine hKz _ _ ⟨D, ?_⟩;clear hKz Kz hv3 kp S oN bE;refine Ag ?_;have S := S2;clear S2;obtain ⟨z, hz⟩ : ∃ z : AF, z = { x with net := N_, aN := aN, cN := cN } := ⟨_, rfl⟩;rw [← hz] at S;have hP : Hid (z.p = Cr x.p (x.net.take k ++ x.net.drop (k + 1))) := by unfold Hid; rw [hz, ← hL1.out, ← hL2.out, ← hN_.out]; rfl
   clear hz hN_;have c0 := D.c0;by_cases h3 : d.k = 3
   ·
    have d3 : (d.k == 3) = true := by simpa using h3
    go_upto_region 11 with fail
    clear c0 d3;replace h3 : Hid _ := h3;have a0 := S.A.at_.all;have e0 := We.all;go_wp2_with fail
    go_at_call 161
    clear e0 a0;have hbz : BA z.p = true := by rw [hP.out]; exact F8 hbk.out k
    have hfr : 0 ≤ v.fr ∧ v.fr ≤ 1 := by have h := F7 hbk.out (k := k) hkl; rw [show x.p.net = x.net from rfl, hv.out] at h; exact h
    refine (GK z v v3 base S.O S.sz hbz hfr).mono ?_;rintro e u9 ⟨x3, rfl, p3, O3, B3, P3⟩;have PZ_ := PZ_.trans (P3.pz S.O);obtain ⟨A9, S9⟩ := S.turnX O3 B3 P3;clear hbz hfr O3 B3 P3 S;obtain ⟨⟨a0, a1, a2, a3, a4, a5, a6, a7, a8, a9⟩, af⟩ := id A9;obtain ⟨f0, f1, f2, f3, f4, f5, f6, f7, f8, f9⟩ := CX af;clear af;go_upto_region 12 with fail
    clear a0 a1 a2 a3 a4 a5 a6 a7 a8 a9 f0 f1 f2 f3 f4 f5 f6 f7 f8 f9 A9;obtain ⟨v9, hv9⟩ := AC ((((((((((u9.setCell (ja w.heap.size 0) (ji x3.id)).setCell (ja w.heap.size 1) (ji x3.po)).setCell (ja w.heap.size 2) (ji x3.rg.ep)).setCell (ja w.heap.size 3) (ji x3.rg.ow)).setCell (ja w.heap.size 4) (ji x3.rg.pa)).setCell (ja w.heap.size 5) (.slice x3.aT x3.two.length x3.cT)).setCell (ja w.heap.size 6) (.slice x3.aN x3.net.length x3.cN)).setCell (ja w.heap.size 7) (.slice x3.aG x3.ga.length x3.cG)).setCell (ja w.heap.size 8) (.slice x3.aL x3.ln.length x3.cL)).setCell (ja w.heap.size 9) (.slice x3.aS x3.sd.length x3.cS));rw [← hv9] at S9 ⊢;have PZ_ := PZ_.keep (n := w.heap.size) (W2 := v9) (Nat.le_refl _) (fun g_ hg => by rw [hv9]; exact Ak _ _ g_ _ hg) (by rw [hv9]; simp);clear hv9;have S := S9;clear S9;have hP3 : Hid ((x3.p, (0 : Int)) = R) := by
     unfold Hid;rw [hR.out]; unfold Dh
     rw [if_neg hX0.out, if_neg h5.out, if_pos h3.out, hk.out, p3, hP.out];show _ = (Co (Cr x.p (x.net.take k ++ x.net.drop (k + 1))) (x.net.getD k Wi.nil), (0 : Int));rw [hv.out]
    clear p3;obtain ⟨O9, B9⟩ := S.ret;have P9 := S.pz PZ_ (by omega);have ZB := S.Z.box;have a0 := S.A.at_.all;have r0 := Ad ZB;clear S;go_wp2
    refine bodyPost_ret (v := .tuple #[AJ x3, ji 0]) (by simp [AJ, results, results144, go_sem, *]) rfl ⟨x3, 0, rfl, by exact hP3.out, O9, B9, P9⟩
   ·
    have d3 : (d.k == 3) = false := by simpa using h3
    replace h3 : Hid (¬ d.k = 3) := h3;have hP3 : Hid ((z.p, (0 : Int)) = R) := by
     unfold Hid;rw [hR.out]; unfold Dh
     rw [if_neg hX0.out, if_neg h5.out, if_neg h3.out, hk.out, hP.out];rfl
    obtain ⟨O9, B9⟩ := S.ret;have P9 := S.pz PZ_ (by omega);have ZB := S.Z.box;have a0 := S.A.at_.all;have r0 := Ad ZB;clear S;go_wp2
    refine bodyPost_ret (v := .tuple #[AJ z, ji 0]) (by simp [AJ, results, results144, go_sem, *]) rfl ⟨z, 0, rfl, by exact hP3.out, O9, B9, P9⟩
 all_goals
  refine w1 6 fun Kz hKz => ?_
  refine CC CY DR 43 _ _ 59 rfl rfl u1.heap.size 164 i1 (.agg #[ji 0, .bool false, ji 0, ji 0, ji 0, ji 0, ji 0, ji 0, ji 0, ji 0, ji 0, .bool false]) 96 underlying59 hi1 hz10 hz11 hz12 rfl (by decide) (by decide) (.slice (some (ja qe 0)) 0 0) ([] : List Wi) rfl E (some (ja gN 0)) x.cN L1 (by rw [hl1.out]; rfl) (fun e => by cases e) (hvT _ S) (by first | omega | (simp; omega)) (by omega) ?_;intro vE k1w E_ gN_ _;replace E_ : AA As 12 164 u1.heap.size k1w vE L1 := E_;have hr : ∀ b, (Value.ownBlock (.slice (some (ja qe 0)) 0 0)) = some b → base ≤ b ∧ Ai b x ∧ b ≠ w.heap.size ∧ b ≠ w.heap.size + 1 + 1 ∧ b ≠ w.heap.size + 1 ∧ b ≠ qn := fun b e => by have h := bE b e; have lw := We0; exact ⟨by omega, NEA b h, by omega, by omega, by omega, by omega⟩
  have PZ_ := PZ_.grown E (by decide) gN_;have S := S.other gN_ (fun b e => ⟨(hr b e).1, (hr b e).2.1, (hr b e).2.2.1, (hr b e).2.2.2.1⟩);have D := D.keep (gN_.block _ D.lt (fun e => (hr _ e.symm).2.2.2.2.1 rfl));have We := We.keep (gN_.block _ We.lt (fun e => (hr _ e.symm).2.2.2.2.2 rfl));have zk1w := gN_.size;have bE2 : ∀ b, (Value.ownBlock vE) = some b → u1.heap.size ≤ b := fun b e => (E_.lt b e).1
  clear E bE hr gN_;have E := E_;have bE := bE2;clear E_ bE2;simp only [List.set_cons_zero, List.set_cons_succ];refine hKz _ _ ⟨D, ?_⟩;clear hKz Kz;refine w1 13 fun Kz hKz => ?_
  refine CC CY DR 50 _ _ 59 rfl rfl u1.heap.size 164 i1 (.agg #[ji 0, .bool false, ji 0, ji 0, ji 0, ji 0, ji 0, ji 0, ji 0, ji 0, ji 0, .bool false]) 96 underlying59 hi1 hz10 hz11 hz12 rfl (by decide) (by decide) vE L1 rfl E ad2 (x.cN - (k + 1)) L2 (by rw [hl2_.out]; rfl) (fun e => absurd e hAn) (hvD _ S) (by first | omega | (simp; omega)) (by omega) ?_;intro vN k2w oN_ gN_ _;replace oN_ : AA As 12 164 u1.heap.size k2w vN (L1 ++ L2) := oN_;have hr : ∀ b, (Value.ownBlock vE) = some b → base ≤ b ∧ Ai b x ∧ b ≠ w.heap.size ∧ b ≠ w.heap.size + 1 + 1 ∧ b ≠ w.heap.size + 1 ∧ b ≠ qn := fun b e => by have h := bE b e; have lw := We0; exact ⟨by omega, NEA b h, by omega, by omega, by omega, by omega⟩
  have PZ_ := PZ_.grown E (by decide) gN_;have S := S.other gN_ (fun b e => ⟨(hr b e).1, (hr b e).2.1, (hr b e).2.2.1, (hr b e).2.2.2.1⟩);have D := D.keep (gN_.block _ D.lt (fun e => (hr _ e.symm).2.2.2.2.1 rfl));have We := We.keep (gN_.block _ We.lt (fun e => (hr _ e.symm).2.2.2.2.2 rfl));have zk2w := gN_.size;have bE2 : ∀ b, (Value.ownBlock vN) = some b → u1.heap.size ≤ b := fun b e => (oN_.lt b e).1
  clear E bE hr gN_;have oN := oN_;have bE := bE2;clear oN_ bE2;simp only [List.set_cons_zero, List.set_cons_succ];refine hKz _ _ ⟨D, ?_⟩;clear hKz Kz;refine tw 14 51 (.pointer (some (ja w.heap.size 6))) ?_;obtain ⟨N_, hN_⟩ := AC (L1 ++ L2);rw [← hN_] at oN;replace hN_ : Hid _ := hN_;obtain ⟨aN, cN, rfl⟩ := oN.open_;obtain ⟨A2, S2⟩ := S.putN N_ aN cN (oN.base ls) (fun _ _ _ => rfl) S.B (fun b e => ⟨by have := bE b e; omega, by have := bE b e; omega⟩);refine w1 15 fun Kz hKz => ?_
  obtain ⟨⟨a0, a1, a2, a3, a4, a5, a6, a7, a8, a9⟩, qf⟩ := id A2;have f6 := qf 6;go_simp
  clear a0 a1 a2 a3 a4 a5 a6 a7 a8 a9 qf f6 A2;obtain ⟨v3, hv3⟩ := AC (k2w.setCell (ja w.heap.size 6) (.slice aN N_.length cN));rw [← hv3] at S2 ⊢;have PZ_ := PZ_.keep (n := w.heap.size) (W2 := v3) (Nat.le_refl _) (fun g_ hg => by rw [hv3]; exact AE hg) (by rw [hv3]; simp);have kp : ∀ g_, g_ ≠ w.heap.size → v3.heap[g_]? = k2w.heap[g_]? := fun g_ hg => by rw [hv3]; exact AE hg
  have D := D.keep (kp _ (by omega));have We := We.keep (kp _ (by omega));refine hKz _ _ ⟨D, ?_⟩;clear hKz Kz hv3 kp S oN bE;refine Ag ?_;have S := S2;clear S2;obtain ⟨z, hz⟩ : ∃ z : AF, z = { x with net := N_, aN := aN, cN := cN } := ⟨_, rfl⟩;rw [← hz] at S;have hP : Hid (z.p = Cr x.p (x.net.take k ++ x.net.drop (k + 1))) := by unfold Hid; rw [hz, ← hL1.out, ← hL2.out, ← hN_.out]; rfl
  clear hz hN_;have c0 := D.c0;by_cases h3 : d.k = 3
  ·
   have d3 : (d.k == 3) = true := by simpa using h3
   go_upto_region 11 with fail
   clear c0 d3;replace h3 : Hid _ := h3;have a0 := S.A.at_.all;have e0 := We.all;go_wp2_with fail
   go_at_call 161
   clear e0 a0;have hbz : BA z.p = true := by rw [hP.out]; exact F8 hbk.out k
   have hfr : 0 ≤ v.fr ∧ v.fr ≤ 1 := by have h := F7 hbk.out (k := k) hkl; rw [show x.p.net = x.net from rfl, hv.out] at h; exact h
   refine (GK z v v3 base S.O S.sz hbz hfr).mono ?_;rintro e u9 ⟨x3, rfl, p3, O3, B3, P3⟩;have PZ_ := PZ_.trans (P3.pz S.O);obtain ⟨A9, S9⟩ := S.turnX O3 B3 P3;clear hbz hfr O3 B3 P3 S;obtain ⟨⟨a0, a1, a2, a3, a4, a5, a6, a7, a8, a9⟩, af⟩ := id A9;obtain ⟨f0, f1, f2, f3, f4, f5, f6, f7, f8, f9⟩ := CX af;clear af;go_upto_region 12 with fail
   clear a0 a1 a2 a3 a4 a5 a6 a7 a8 a9 f0 f1 f2 f3 f4 f5 f6 f7 f8 f9 A9;obtain ⟨v9, hv9⟩ := AC ((((((((((u9.setCell (ja w.heap.size 0) (ji x3.id)).setCell (ja w.heap.size 1) (ji x3.po)).setCell (ja w.heap.size 2) (ji x3.rg.ep)).setCell (ja w.heap.size 3) (ji x3.rg.ow)).setCell (ja w.heap.size 4) (ji x3.rg.pa)).setCell (ja w.heap.size 5) (.slice x3.aT x3.two.length x3.cT)).setCell (ja w.heap.size 6) (.slice x3.aN x3.net.length x3.cN)).setCell (ja w.heap.size 7) (.slice x3.aG x3.ga.length x3.cG)).setCell (ja w.heap.size 8) (.slice x3.aL x3.ln.length x3.cL)).setCell (ja w.heap.size 9) (.slice x3.aS x3.sd.length x3.cS));rw [← hv9] at S9 ⊢;have PZ_ := PZ_.keep (n := w.heap.size) (W2 := v9) (Nat.le_refl _) (fun g_ hg => by rw [hv9]; exact Ak _ _ g_ _ hg) (by rw [hv9]; simp);clear hv9;have S := S9;clear S9;have hP3 : Hid ((x3.p, (0 : Int)) = R) := by
    unfold Hid;rw [hR.out]; unfold Dh
    rw [if_neg hX0.out, if_neg h5.out, if_pos h3.out, hk.out, p3, hP.out];show _ = (Co (Cr x.p (x.net.take k ++ x.net.drop (k + 1))) (x.net.getD k Wi.nil), (0 : Int));rw [hv.out]
   clear p3;obtain ⟨O9, B9⟩ := S.ret;have P9 := S.pz PZ_ (by omega);have ZB := S.Z.box;have a0 := S.A.at_.all;have r0 := Ad ZB;clear S;go_wp2
   refine bodyPost_ret (v := .tuple #[AJ x3, ji 0]) (by simp [AJ, results, results144, go_sem, *]) rfl ⟨x3, 0, rfl, by exact hP3.out, O9, B9, P9⟩
  ·
   have d3 : (d.k == 3) = false := by simpa using h3
   replace h3 : Hid (¬ d.k = 3) := h3;have hP3 : Hid ((z.p, (0 : Int)) = R) := by
    unfold Hid;rw [hR.out]; unfold Dh
    rw [if_neg hX0.out, if_neg h5.out, if_neg h3.out, hk.out, hP.out];rfl
   obtain ⟨O9, B9⟩ := S.ret;have P9 := S.pz PZ_ (by omega);have ZB := S.Z.box;have a0 := S.A.at_.all;have r0 := Ad ZB;clear S;go_wp2
   refine bodyPost_ret (v := .tuple #[AJ z, ji 0]) (by simp [AJ, results, results144, go_sem, *]) rfl ⟨z, 0, rfl, by exact hP3.out, O9, B9, P9⟩
end Go.Proofs.YtjmnaeeknomiaaaGreatDoor
