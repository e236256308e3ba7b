import Derived.Lib.AppendZeros
import Derived.Test.YtnpiljegdiconabGreatQM23
namespace Go.Proofs.YtnpiljegdiconabGreat
open Go.ChangeShapes Go.WideShapes Go.ChangeAt Go.RowKit
open Go.ChangeMaps (open_string shut_string)
set_option linter.unusedVariables false
set_option maxRecDepth 100000
set_option linter.unusedSimpArgs false in
set_option maxHeartbeats 4000000 in
theorem gatesOfI (x : BxD) (w : World) (hJ : BxJ w x) (hb : bxOk x.p = true) :
  Calls Tryz.prog 38 #[.agg #[.int .i64 x.id, .int .i64 x.po, .int .i64 x.rg.ep, .int .i64 x.rg.ow, .int .i64 x.rg.pa, .slice x.aT x.two.length x.cT, .slice x.aN x.net.length x.cN, .slice x.aG x.ga.length x.cG, .slice x.aL x.ln.length x.cL, .slice x.aS x.sd.length x.cS]] w fun e w' => YN e (gatesJ x.p) ∧ Below w.heap.size w w' := by
 obtain ⟨Q, hQ⟩ : ∃ Q : Prop, Q = (gatesJ x.p) := ⟨_, rfl⟩
 rw [← hQ]
 replace hQ : Hid _ := hQ
 obtain ⟨y, hy⟩ := mk_ (w.alloc (Obj.cells #[.int .i64 x.id, .int .i64 x.po, .int .i64 x.rg.ep, .int .i64 x.rg.ow, .int .i64 x.rg.pa, .slice x.aT x.two.length x.cT, .slice x.aN x.net.length x.cN, .slice x.aG x.ga.length x.cG, .slice x.aL x.ln.length x.cL, .slice x.aS x.sd.length x.cS] 39))
 have B : Below w.heap.size w y := by rw [hy]; exact below_new _
 have A : BxAt y w.heap.size x := by rw [hy]; exact BxAt.new w _ x
 have J := hJ.later B
 have hln : x.ln.length ≤ 60 := (bxOk_smJ hb).2.2.2.2.1
 have hga : x.ga.length ≤ 4 := (bxOk_smJ hb).2.2.2.1
 have hQ2 : Hid (Q ↔ x.ga = gatesR (ofR x.id x.po x.ln)) := by unfold Hid; rw [hQ.out]; unfold gatesJ; exact eq_comm
 have hR4 := ofR_len x.id x.po x.ln
 have hG4 := gatesR_len (ofR x.id x.po x.ln)
 obtain ⟨I, hI⟩ : ∃ v, newI x.id x.po = v := ⟨_, rfl⟩
 obtain ⟨D, hD⟩ : ∃ v, ofR x.id x.po x.ln = v := ⟨_, rfl⟩
 rw [hD] at hQ2 hR4 hG4
 obtain ⟨G, hG⟩ : ∃ v, gatesR D = v := ⟨_, rfl⟩
 rw [hG] at hQ2 hG4
 have hG5 : G.length ≤ 4 := by omega
 replace hI : Hid _ := hI
 replace hD : Hid _ := hD
 replace hG : Hid _ := hG
 clear hQ hb hG4
 go_enter Tryz.func38, Tryz.ntmps38
 go_upto_region 1 with fail
 rw [← hy]
 clear hy
 refine wp_region_held (S := fun Y => Below y.heap.size y Y) (by kernel_rfl) ?_
 change wpAnyH _ _ _ _ _ _ _ _ (World.drew _)
 have hb0 : Below y.heap.size y y.drew := (Below.refl _ _).drew
 obtain ⟨u0, hu0⟩ := mk_ y.drew
 rw [← hu0] at hb0 ⊢
 clear hu0
 refine tw 0 3 (.pointer (some ⟨w.heap.size, 7, none⟩)) ?_
 refine tw 1 4 (.slice x.aG x.ga.length x.cG) ?_ (hy := by intro Y hSw; obtain ⟨X0, X1, X2, X3, X4, X5, X6, X7, X8, X9⟩ := A.below hSw A.lt; go_simp)
 refine tw 2 5 (.pointer (some ⟨w.heap.size, 0, none⟩)) ?_
 refine tw 3 6 (.int .i64 x.id) ?_ (hy := by intro Y hSw; obtain ⟨X0, X1, X2, X3, X4, X5, X6, X7, X8, X9⟩ := A.below hSw A.lt; go_simp)
 refine tw 4 7 (.pointer (some ⟨w.heap.size, 1, none⟩)) ?_
 refine tw 5 8 (.int .i64 x.po) ?_ (hy := by intro Y hSw; obtain ⟨X0, X1, X2, X3, X4, X5, X6, X7, X8, X9⟩ := A.below hSw A.lt; go_simp)
 refine tw 6 9 (.pointer (some ⟨w.heap.size, 8, none⟩)) ?_
 refine tw 7 10 (.slice x.aL x.ln.length x.cL) ?_ (hy := by intro Y hSw; obtain ⟨X0, X1, X2, X3, X4, X5, X6, X7, X8, X9⟩ := A.below hSw A.lt; go_simp)
 refine w1 8 fun Kz hKz => ?_
 go_simp
 go_at_call 67
 refine (bofI x.id x.po x.aL x.cL x.ln u0 (J.later hb0).v.i (by omega)).mono ?_
 rintro e u1 ⟨a1, c1, rfl, O1, kq⟩
 have hb1 : Below y.heap.size y u1 := hb0.trans (kq.mono hb0.size)
 clear kq
 rw [hD.out] at O1
 rw [hI.out, hD.out]
 refine hKz _ _ ⟨hb1, ?_⟩
 clear hKz Kz
 refine w1 9 fun Kz hKz => ?_
 go_simp
 go_at_call 66
 refine (gatesI12 I a1 c1 D u1 O1.view.2 (by omega)).mono ?_
 rintro e u2 ⟨a2, c2, rfl, O2, kq⟩
 have hb2 : Below y.heap.size y u2 := hb1.trans (kq.mono hb1.size)
 clear kq
 rw [hG.out] at O2
 rw [hG.out]
 refine hKz _ _ ⟨hb2, ?_⟩
 clear hKz Kz
 refine w1 10 fun Kz hKz => ?_
 go_simp
 go_at_call 65
 refine (boEql x.aG a2 x.cG c2 x.ga G u2 (J.later hb2).v.g O2.view.2 (by omega) (by omega)).mono ?_
 rintro e u3 ⟨⟨rb, rfl, hrb⟩, kq⟩
 have hb3 : Below y.heap.size y u3 := hb2.trans (kq.mono hb2.size)
 clear kq
 replace hrb : Hid _ := hrb
 refine hKz _ _ ⟨hb3, ?_⟩
 clear hKz Kz
 refine tw 11 2 (.bool rb) ?_
 refine wpAnyH_done (by kernel_rfl) ?_ _
 have B := B.trans (hb3.mono B.size)
 go_wp2
 go_ret
 exact ⟨YN.is (by rw [hQ2.out]; exact hrb.out), B⟩
set_option maxHeartbeats 4000000 in
theorem growO (n : Int) (w : World) (h0 : 0 ≤ n) (h1 : n ≤ 3000000) :
  Calls Tryz.prog 121 #[.slice none 0 0, .int .i64 n] w fun e w' => ∃ ad cap, e = .returned (.slice ad 0 cap) ∧ FOwn ouEnc 8 92 w.heap.size w' (.slice ad 0 cap) [] ∧ Below w.heap.size w w' := by
 obtain ⟨i0, hi, hz0, hz1, hz2⟩ := info_parts ouInfo
 have d0 : decide (n < 0) = false := decide_eq_false (by omega)
 have d1 : ¬ n < 0 := by omega
 have hw : IntKind.i64.wrap n = n := by rw [IntKind.wrap_i64]; omega
 by_cases hn : n = 0
 ·
  subst hn
  go_enter Tryz.func121, Tryz.ntmps121
  go_wp2
  go_ret
  exact ⟨none, 0, rfl, FOwn.nil, Below.refl _ _⟩
 obtain ⟨m, rfl⟩ := Int.eq_ofNat_of_zero_le h0
 have hm : 0 < m := by omega
 have d2 : decide (0 < (m : Int)) = true := decide_eq_true (by omega)
 have d3 : 0 < (m : Int) := by omega
 have hr : ∀ ty, (Builtin.append_ #[37, 3] ty #[.slice none 0 0, .int .i64 (m : Int)]).run Tryz.prog w = _ := fun ty => Lib.run_append_nil_zeros w 37 3 ty 92 i0 (.agg #[.int .i64 0, .int .i64 0, .int .i64 0, .int .i64 0, .int .i64 0, .int .i64 0, .int .i64 0, .bool false]) .i64 .i64 Tryz.underlying37 Tryz.underlying3 hi hz0 m hm (by omega) (by omega) (by rw [hz2]; omega)
 obtain ⟨c, hc⟩ : ∃ c, grownCap w m 0 92 = c := ⟨_, rfl⟩
 have hc1 : m ≤ c := by rw [← hc]; exact grownCap_ge w m 0 _
 have hc2 : c ≤ maxLen := by rw [← hc]; exact grownCap_le_maxLen w m 0 _ (by unfold maxLen; omega)
 rw [hc] at hr
 replace hc : Hid _ := hc
 obtain ⟨w1, hw1⟩ := mk_ (w.drew.alloc (.cells (Builtin.zeroCells (Value.cells (.agg #[.int .i64 0, .int .i64 0, .int .i64 0, .int .i64 0, .int .i64 0, .int .i64 0, .int .i64 0, .bool false])) m ++ Builtin.zeroCells (Value.cells (.agg #[.int .i64 0, .int .i64 0, .int .i64 0, .int .i64 0, .int .i64 0, .int .i64 0, .int .i64 0, .bool false])) (c - m)) 92))
 have B1 : Below w.heap.size w w1 := by
  rw [hw1]
  exact ((Below.refl _ _).drew).alloc (by simp) _
 have O1 : FOwn ouEnc 8 92 w.heap.size w1 (.slice (some ⟨w.heap.size, 0, none⟩) 0 c) [] := by
  refine ⟨by simp [fcells], .inr ⟨w.heap.size, c, Builtin.zeroCells (Value.cells (.agg #[.int .i64 0, .int .i64 0, .int .i64 0, .int .i64 0, .int .i64 0, .int .i64 0, .int .i64 0, .bool false])) m ++ Builtin.zeroCells (Value.cells (.agg #[.int .i64 0, .int .i64 0, .int .i64 0, .int .i64 0, .int .i64 0, .int .i64 0, .int .i64 0, .bool false])) (c - m), rfl, Nat.le_refl _, ?_, Nat.zero_le _, hc2, ?_, by simp [fcells]⟩⟩
  ·
   rw [hw1]
   exact heap_newF w.drew _
  ·
   simp [Builtin.zeroCells, Value.cells]
   omega
 rw [← hw1] at hr
 clear hw1
 go_enter Tryz.func121, Tryz.ntmps121
 go_wp2_with (at_builtin; refine Lib.wpList_append_run _ rfl _ _ _ _ rfl _ _ rfl rfl _ _ (hr _) ?_)
 go_wp2
 go_ret
 exact ⟨_, _, rfl, O1, B1⟩
set_option maxHeartbeats 8000000 in
theorem concatO (q : Nat) (a1 a2 : Option Addr) (c1 c2 : Nat) (L1 L2 : List Ou) (w : World) (h1 : w.cell? ⟨q, 0, none⟩ = some (.slice a1 L1.length c1)) (h2 : w.cell? ⟨q, 1, none⟩ = some (.slice a2 L2.length c2)) (v1 : FView ouEnc w a1 L1) (v2 : FView ouEnc w a2 L2) (n1 : a1 = none → c1 = 0) (n2 : a2 = none → c2 = 0) (l1 : L1.length ≤ 1048576) (l2 : L2.length ≤ 1048576) :
  Calls Tryz.prog 98 #[.slice (some ⟨q, 0, none⟩) 2 2] w fun e w' => ∃ ad cap, e = .returned (.slice ad (L1 ++ L2).length cap) ∧ FOwn ouEnc 8 92 w.heap.size w' (.slice ad (L1 ++ L2).length cap) (L1 ++ L2) ∧ Below w.heap.size w w' := by
 obtain ⟨i0, hi, hz0, hz1, hz2⟩ := info_parts ouInfo
 have d1 : ¬ (L1.length : Int) < 0 := by omega
 have d2 : ¬ (L1.length : Int) + (L2.length : Int) < 0 := by omega
 have e1 : decide ((L1.length : Int) < 0) = false := decide_eq_false d1
 have e2 : decide ((L1.length : Int) + (L2.length : Int) < 0) = false := decide_eq_false d2
 have hql := World.block_lt_of_cell? w _ h1
 have b1 := v1.lt ouEnc_len (by omega)
 have b2 := v2.lt ouEnc_len (by omega)
 go_enter Tryz.func98, Tryz.ntmps98
 go_wp2
 refine wp_loop_rounds 3 ?_
 rw [rounds_succ]
 go_wp2_with fail
 rw [rounds_succ]
 go_wp2_with fail
 rw [rounds_succ]
 go_wp2_with fail
 go_at_call 121
 refine (growO _ w (by omega) (by omega)).mono ?_
 rintro e y ⟨ad, cap, rfl, O, ky⟩
 have h1 := (World.cell?_of_block (a := ⟨q, 0, none⟩) (ky.block q hql)).trans h1
 have h2 := (World.cell?_of_block (a := ⟨q, 1, none⟩) (ky.block q hql)).trans h2
 have v1 := v1.below ky b1
 have v2 := v2.below ky b2
 have hsz := ky.size
 go_wp2
 refine wp_loop_rounds 3 ?_
 rw [rounds_succ]
 go_wp2_with (first | (at_builtin; refine fappL ouEnc_len ouEnc_ones rfl _ _ 37 rfl w.heap.size 92 i0 (.agg #[.int .i64 0, .int .i64 0, .int .i64 0, .int .i64 0, .int .i64 0, .int .i64 0, .int .i64 0, .bool false]) 64 Tryz.underlying37 hi hz0 hz1 hz2 rfl (by decide) (by decide) (.slice ad 0 cap) [] rfl O a1 c1 L1 rfl n1 v1 ?z0 ?z1 ?_) | go_in)
 case z0 => first | omega | (simp; omega)
 case z1 => exact hsz
 intro v' z O1 g1 _
 replace O1 : FOwn ouEnc 8 92 w.heap.size z v' L1 := O1
 obtain ⟨ad', cap', rfl⟩ := O1.open_
 have ob : ∀ k, (Value.slice ad 0 cap).ownBlock = some k → w.heap.size ≤ k := fun k e => (O.lt k e).1
 have kz : Below w.heap.size w z := ky.grown g1 hsz ob
 have hq2 : z.heap[q]? = y.heap[q]? := g1.block q (by omega) (fun e => by have := ob q e.symm; omega)
 have h2 := (World.cell?_of_block (a := ⟨q, 1, none⟩) hq2).trans h2
 have h1 := (World.cell?_of_block (a := ⟨q, 0, none⟩) hq2).trans h1
 have v2 : FView ouEnc z a2 L2 := v2.carry (fun a e p => g1.block _ (by have := b2 a e p; omega) (fun e2 => by have h3 := ob _ e2.symm; have h4 := b2 a e p; omega))
 have hs2 := kz.size
 clear g1 ob hq2 O ky
 go_wp2_with fail
 rw [rounds_succ]
 go_wp2_with (first | (at_builtin; refine fappL ouEnc_len ouEnc_ones rfl _ _ 37 rfl w.heap.size 92 i0 (.agg #[.int .i64 0, .int .i64 0, .int .i64 0, .int .i64 0, .int .i64 0, .int .i64 0, .int .i64 0, .bool false]) 64 Tryz.underlying37 hi hz0 hz1 hz2 rfl (by decide) (by decide) (.slice ad' L1.length cap') L1 rfl O1 a2 c2 L2 rfl n2 v2 ?y0 ?y1 ?_) | go_in)
 case y0 => first | omega | (simp; omega)
 case y1 => exact hs2
 intro v' x O2 g2 _
 obtain ⟨ad2, cap2, rfl⟩ := O2.open_
 have ob : ∀ k, (Value.slice ad' L1.length cap').ownBlock = some k → w.heap.size ≤ k := fun k e => (O1.lt k e).1
 have kx : Below w.heap.size w x := kz.grown g2 hs2 ob
 clear g2 ob O1 kz h1 h2 v1 v2
 obtain ⟨M, hM⟩ : ∃ M, L1 ++ L2 = M := ⟨_, rfl⟩
 rw [hM] at O2 ⊢
 replace hM : Hid _ := hM
 go_wp2_with fail
 rw [rounds_succ]
 go_wp2
 go_ret
 obtain rfl := hM.out
 exact ⟨_, _, rfl, O2, kx⟩
def SdO (base : Nat) (w : World) (a : Option Addr) (c : Nat) (L : List Ou) : Prop := (a = none ∧ c = 0 ∧ L = []) ∨ ∃ (g : Nat) (pre : List Ou) (cap : Nat), a = some ⟨g, pre.length * 8, none⟩ ∧ c + pre.length = cap ∧ FOwn ouEnc 8 92 base w (.slice (some ⟨g, 0, none⟩) (pre ++ L).length cap) (pre ++ L)
theorem SdO.of {base : Nat} {w : World} {a : Option Addr} {c : Nat} {L : List Ou} (h : FOwn ouEnc 8 92 base w (.slice a L.length c) L) : SdO base w a c L := by
 rcases h.2 with ⟨e, h0⟩ | ⟨g, c2, cur, e, _⟩
 ·
  simp only [Value.slice.injEq] at e
  exact .inl ⟨e.1, e.2.2, List.eq_nil_of_length_eq_zero e.2.1⟩
 ·
  simp only [Value.slice.injEq] at e
  obtain ⟨rfl, _, _⟩ := e
  exact .inr ⟨g, [], c, rfl, rfl, h⟩
theorem SdO.view {base : Nat} {w : World} {a : Option Addr} {c : Nat} {L : List Ou} (h : SdO base w a c L) : FView ouEnc w a L := by
 rcases h with ⟨_, _, rfl⟩ | ⟨g, pre, cap, rfl, _, O⟩
 ·
  exact FView.nil
 ·
  have := O.view.2.dropO (k := pre.length) (by simp)
  rwa [List.drop_left] at this
theorem SdO.nil0 {base : Nat} {w : World} {a : Option Addr} {c : Nat} {L : List Ou} (h : SdO base w a c L) (e : a = none) : c = 0 := by
 rcases h with ⟨_, h, _⟩ | ⟨g, pre, cap, e2, _⟩
 ·
  exact h
 ·
  rw [e] at e2; cases e2
theorem SdO.keep {base : Nat} {w w' : World} {a : Option Addr} {c : Nat} {L : List Ou} (h : SdO base w a c L) (k : ∀ g, base ≤ g → g < w.heap.size → (∀ n, (Value.slice a n c).ownBlock = some g) → w'.heap[g]? = w.heap[g]?) : SdO base w' a c L := by
 rcases h with h | ⟨g, pre, cap, rfl, hc, O⟩
 ·
  exact .inl h
 ·
  exact .inr ⟨g, pre, cap, rfl, hc, O.keep (fun g2 e => k g2 (O.lt g2 e).1 (O.lt g2 e).2 (fun n => e))⟩
theorem SdO.base {b1 b2 : Nat} {w : World} {a : Option Addr} {c : Nat} {L : List Ou} (h : SdO b1 w a c L) (hb : b2 ≤ b1) : SdO b2 w a c L := by
 rcases h with h | ⟨g, pre, cap, e, hc, O⟩
 ·
  exact .inl h
 ·
  exact .inr ⟨g, pre, cap, e, hc, O.base hb⟩
set_option maxHeartbeats 4000000 in
theorem saidI (a1 a2 : Option Addr) (c1 c2 : Nat) (S L : List Ou) (w : World) (v1 : FView ouEnc w a1 S) (v2 : FView ouEnc w a2 L) (n1 : a1 = none → c1 = 0) (n2 : a2 = none → c2 = 0) (l1 : S.length ≤ 1048576) (l2 : L.length ≤ 1048576) :
  Calls Tryz.prog 70 #[.slice a1 S.length c1, .slice a2 L.length c2] w fun e w' => ∃ a c, e = .returned (.slice a (lastS (S ++ L)).length c) ∧ SdO w.heap.size w' a c (lastS (S ++ L)) ∧ Below w.heap.size w w' := by
 obtain ⟨Q, hQ⟩ := mk_ (S ++ L)
 rw [← hQ]
 replace hQ : Hid _ := hQ
 obtain ⟨y, hy⟩ := mk_ (w.alloc (Obj.cells #[.slice a1 S.length c1, .slice a2 L.length c2] 37))
 have B0 : Below w.heap.size w y := by rw [hy]; exact below_new _
 have h1 : y.cell? ⟨w.heap.size, 0, none⟩ = some (.slice a1 S.length c1) := by rw [hy]; simp [go_sem]
 have h2 : y.cell? ⟨w.heap.size, 1, none⟩ = some (.slice a2 L.length c2) := by rw [hy]; simp [go_sem]
 have v1 := v1.below B0 (v1.lt ouEnc_len (by omega))
 have v2 := v2.below B0 (v2.lt ouEnc_len (by omega))
 go_enter Tryz.func70, Tryz.ntmps70
 go_wp2_with fail
 go_at_call 98
 rw [← hy]
 clear hy
 refine (concatO w.heap.size a1 a2 c1 c2 S L y h1 h2 v1 v2 n1 n2 l1 l2).mono ?_
 rintro e z ⟨ad, cap, rfl, O, kq⟩
 have B1 := B0.trans (kq.mono B0.size)
 have O := O.base B0.size
 have bl : (S ++ L).length ≤ 2097152 := by rw [List.length_append]; omega
 rw [← hQ.out] at O bl ⊢
 clear hQ kq h1 h2 v1 v2 B0
 have hcap := O.capM
 have hcm : cap ≤ maxLen := by
  rcases O.2 with ⟨e, _⟩ | ⟨g, c, cur, e, _, _, _, hm, _⟩
  ·
   simp only [Value.slice.injEq] at e; omega
  ·
   simp only [Value.slice.injEq] at e; omega
 by_cases h40 : Q.length ≤ 40
 ·
  have hw : IntKind.i64.wrap ((Q.length : Int) - 40) = (Q.length : Int) - 40 := by rw [IntKind.wrap_i64]; omega
  have hm : max (0 : Int) ((Q.length : Int) - 40) = 0 := by omega
  have hX : lastS Q = Q := lastS_all h40
  cases ad with
  | none =>
   obtain rfl := O.view.2.none_nil
   obtain rfl := own_noneM O
   go_wp2
   go_ret
   exact ⟨none, 0, by rw [hX]; rfl, .inl ⟨rfl, rfl, hX⟩, B1⟩
  | some a =>
   obtain ⟨g, rfl⟩ : ∃ g, a = ⟨g, 0, none⟩ := by
    rcases O.2 with ⟨e, _⟩ | ⟨g, c, cur, e, _⟩
    ·
     simp at e
    ·
     simp only [Value.slice.injEq, Option.some.injEq] at e; exact ⟨g, e.1⟩
   replace hX : Hid _ := hX
   go_wp2
   go_ret
   exact ⟨_, cap, by rw [hX.out]; rfl, by rw [hX.out]; exact SdO.of O, B1⟩
 ·
  obtain ⟨n, hn⟩ : ∃ n, Q.length = n + 40 := ⟨Q.length - 40, by omega⟩
  have hw : IntKind.i64.wrap ((Q.length : Int) - 40) = (n : Int) := by rw [IntKind.wrap_i64]; omega
  have hm : max (0 : Int) (n : Int) = (n : Int) := by omega
  obtain ⟨g, rfl⟩ : ∃ g, ad = some ⟨g, 0, none⟩ := by
   rcases O.2 with ⟨e, _⟩ | ⟨g, c, cur, e, _⟩
   ·
    simp only [Value.slice.injEq] at e; omega
   ·
    simp only [Value.slice.injEq] at e; exact ⟨g, e.1⟩
  have hX : lastS Q = Q.drop n := by unfold lastS; rw [show Q.length - 40 = n by omega]
  have hl : (lastS Q).length = 40 := by rw [hX, List.length_drop]; omega
  have hpre : (Q.take n).length = n := by rw [List.length_take]; omega
  have hS : SdO w.heap.size z (some ⟨g, n * 8, none⟩) (cap - n) (lastS Q) := .inr ⟨g, Q.take n, cap, by rw [hpre], by rw [hpre]; omega, by rw [hX, List.take_append_drop]; exact O⟩
  replace hX : Hid _ := hX
  replace hl : Hid _ := hl
  replace hS : Hid _ := hS
  replace hpre : Hid _ := hpre
  have hlt : n < cap := by omega
  have hq2 : n ≤ Q.length := by omega
  have hn2 : Q.length - n = 40 := by omega
  replace hn : Hid _ := hn
  clear O
  go_wp2
  go_ret
  exact ⟨_, _, by rw [hl.out]; rfl, hS.out, B1⟩
set_option linter.unusedSimpArgs false in
set_option maxHeartbeats 8000000 in
theorem saidOfI (x : BxD) (w : World) (hJ : BxJ w x) (hb : bxOk x.p = true) :
  Calls Tryz.prog 39 #[.agg #[.int .i64 x.id, .int .i64 x.po, .int .i64 x.rg.ep, .int .i64 x.rg.ow, .int .i64 x.rg.pa, .slice x.aT x.two.length x.cT, .slice x.aN x.net.length x.cN, .slice x.aG x.ga.length x.cG, .slice x.aL x.ln.length x.cL, .slice x.aS x.sd.length x.cS]] w fun e w' => YN e (saidJ x.p) ∧ Below w.heap.size w w' := by
 obtain ⟨Q, hQ⟩ : ∃ Q : Prop, Q = (saidJ x.p) := ⟨_, rfl⟩
 rw [← hQ]
 replace hQ : Hid _ := hQ
 obtain ⟨y, hy⟩ := mk_ (w.alloc (Obj.cells #[.int .i64 x.id, .int .i64 x.po, .int .i64 x.rg.ep, .int .i64 x.rg.ow, .int .i64 x.rg.pa, .slice x.aT x.two.length x.cT, .slice x.aN x.net.length x.cN, .slice x.aG x.ga.length x.cG, .slice x.aL x.ln.length x.cL, .slice x.aS x.sd.length x.cS] 39))
 have B : Below w.heap.size w y := by rw [hy]; exact below_new _
 have A : BxAt y w.heap.size x := by rw [hy]; exact BxAt.new w _ x
 have J := hJ.later B
 have hln : x.ln.length ≤ 60 := (bxOk_smJ hb).2.2.2.2.1
 have hsd : x.sd.length ≤ 40 := (bxOk_smJ hb).2.2.2.2.2
 have hBn := J.v.i.lt ikEnc_len (by omega)
 have hNl := newL_small x.id x.po
 obtain ⟨I, hI⟩ : ∃ v, newI x.id x.po = v := ⟨_, rfl⟩
 obtain ⟨N, hN⟩ : ∃ v, newL x.id x.po = v := ⟨_, rfl⟩
 have hQ2 : Hid (Q ↔ lastS (outsA I N x.ln) = x.sd) := by unfold Hid; rw [hQ.out, ← hI, ← hN]; exact Iff.rfl
 rw [hN] at hNl
 replace hI : Hid _ := hI
 replace hN : Hid _ := hN
 clear hQ hb
 have hw0 := A.lt
 go_enter Tryz.func39, Tryz.ntmps39
 go_upto_region 1 with fail
 rw [← hy]
 clear hy
 have cc := A
 obtain ⟨a0, a1, a2, a3, a4, a5, a6, a7, a8, a9⟩ := cc
 go_wp2_with fail
 go_at_call 68
 clear a0 a1 a2 a3 a4 a5 a6 a7 a8 a9
 refine (newBI x.id x.po y).mono ?_
 rintro e u1 ⟨a1, c1, rfl, O1, k1⟩
 rw [hN.out] at O1
 rw [hI.out, hN.out]
 obtain ⟨nk, hnk⟩ : ∃ b, nOk x.id x.po = b := ⟨_, rfl⟩
 rw [hnk]
 clear hI hN hnk
 have A := A.below k1 A.lt
 have B1 := B.trans (k1.mono B.size)
 have s1 := k1.size
 have lo1 := O1.lt
 clear k1 B J
 obtain ⟨u2, hu2⟩ := mk_ (u1.alloc (Obj.cells #[.int .i64 I, .slice a1 N.length c1] 69))
 have k2 : Below u1.heap.size u1 u2 := by rw [hu2]; exact below_new _
 have P := BBox.new u1 69 I (.slice a1 N.length c1)
 rw [← hu2] at P
 have B := B1.trans (k2.mono B1.size)
 have A := A.below k2 A.lt
 have O1 := O1.later k2
 have s2 := P.lt
 go_upto_region 2 with fail
 rw [← hu2]
 clear hu2 k2 B1
 obtain ⟨p, hp⟩ := mk_ u1.heap.size
 rw [← hp] at P s1 s2 lo1 ⊢
 clear hp
 have lp : w.heap.size < p := by omega
 have J := hJ.later B
 have cc := A
 obtain ⟨a0, a1, a2, a3, a4, a5, a6, a7, a8, a9⟩ := cc
 go_upto_region 4 with fail
 clear a0 a1 a2 a3 a4 a5 a6 a7 a8 a9 J
 go_loopw [5, 6, 20] (fun v5 v6 i wr => ∃ (k : Nat) (a : Option Addr) (c : Nat) (L : List Pt) (a5 : Option Addr) (c5 : Nat) (S : List Ou), k ≤ x.ln.length ∧ i = .int .i64 (k : Int) ∧ v5 = .slice a5 S.length c5 ∧ Hid (ofL I N (x.ln.take k) = L) ∧ Hid (lastS (outsA I N (x.ln.take k)) = S) ∧ BBox wr p I (.slice a L.length c) ∧ FOwn ptEnc 11 113 w.heap.size wr (.slice a L.length c) L ∧ (∀ g, (Value.slice a L.length c).ownBlock = some g → g ≠ p) ∧ SdO (p + 1) wr a5 c5 S ∧ BxAt wr w.heap.size x ∧ Below w.heap.size w wr) (fun _ _ i _ => x.ln.length - (intOf i).toNat)
 case atStart => exact ⟨0, a1, c1, N, none, 0, [], Nat.zero_le _, rfl, rfl, rfl, rfl, P, O1.base (by omega), fun g e => by have := lo1 g e; omega, .inl ⟨rfl, rfl, rfl⟩, A, B⟩
 case round =>
  obtain ⟨k, a, c, L, a5, c5, S, hk, rfl, rfl, hL, hS, P, O, hne, SO, A, B⟩ := hrel
  have hLl : L.length ≤ 4 := by rw [← hL.out, ofL_len]; exact hNl
  have hSl : S.length ≤ 40 := by rw [← hS.out]; exact lastS_len _
  clear O1 lo1
  have J := hJ.later B
  by_cases hlt : k < x.ln.length
  ·
   have hst := ofL_step I N x.ln ikN hlt
   have hso := outsA_step I N x.ln ikN hlt
   rw [hL.out] at hst hso
   have hs2 : lastS (S ++ reactO I L (x.ln.getD k ikN)) = lastS (outsA I N (x.ln.take (k + 1))) := by rw [hso, ← hS.out, lastS_app]
   clear hso hL hS
   obtain ⟨b, off, hat, _⟩ := J.v.i (by omega)
   obtain ⟨d, hh⟩ : ∃ d, x.ln.getD k ikN = d := ⟨_, rfl⟩
   rw [hh] at hst hs2
   have hck : IkAtO wr b (off + k * 8) d := by have h1 := J.v.i; rw [hat] at h1; rw [← hh]; exact ikAtO_of (h1.at_ ikEnc_len ikN hlt)
   replace hst : Hid _ := hst
   replace hs2 : Hid _ := hs2
   clear hh
   have lp2 := P.lt
   have bs := B.size
   have ln := O.lt
   rw [hat]
   obtain ⟨e0, e1, e2, e3, e4, e5, e6, e7⟩ := hck
   obtain ⟨u, hu⟩ := mk_ (wr.alloc (Obj.cells #[.int .i64 d.k, .int .i64 d.q, .int .i64 d.r, .int .i64 d.c, .int .i64 d.b, .int .i64 d.p, .int .i64 d.h, .bool d.up] 80))
   replace hat : Hid _ := hat
   have ku : Below wr.heap.size wr u := by rw [hu]; exact below_new _
   have U : InAt u wr.heap.size d := by rw [hu]; exact InAt.new wr _ d
   have P := P.below ku P.lt
   have A := A.below ku A.lt
   have O := O.later ku
   have SO := SO.keep (fun g _ hg _ => ku.block g hg)
   have B3 := B.trans (ku.mono B.size)
   have su := ku.size
   go_upto_region 6 with fail
   rw [← hu]
   clear hu ku e0 e1 e2 e3 e4 e5 e6 e7 B J
   have cc := P
   obtain ⟨⟨p0, p1⟩, pf⟩ := cc
   obtain ⟨e0, e1, e2, e3, e4, e5, e6, e7⟩ := U
   go_wp2_with fail
   go_at_call 69
   clear p0 p1 pf e0 e1 e2 e3 e4 e5 e6 e7
   refine (reactI I a c L d u O.view.2 (by omega) O.capn).mono ?_
   rintro e w2 ⟨a2, c2, o2, d2, rfl, O2, Q2, _, k2⟩
   have hOl := reactO_len I L d
   obtain ⟨M, hM⟩ : ∃ M, reactL I L d = M := ⟨_, rfl⟩
   obtain ⟨OO, hOO⟩ : ∃ M, reactO I L d = M := ⟨_, rfl⟩
   rw [hM] at O2 ⊢
   rw [hOO] at Q2 hOl ⊢
   have hst2 : Hid (ofL I N (x.ln.take (k + 1)) = M) := by unfold Hid; rw [hst.out]; exact hM
   have hs3 : Hid (lastS (S ++ OO) = lastS (outsA I N (x.ln.take (k + 1)))) := by unfold Hid; rw [← hs2.out, hOO]
   clear hM hOO hst hs2
   have P := P.below k2 P.lt
   have A := A.below k2 A.lt
   have B3 := B3.trans (k2.mono B3.size)
   have SO := SO.keep (fun g _ hg _ => k2.block g hg)
   have P9 := P.put I (.slice a2 M.length c2)
   have lo2 := O2.lt
   have lq2 := Q2.lt
   clear O hne ln k2
   obtain ⟨w3, hw3⟩ := mk_ ((w2.setCell ⟨p, 0, none⟩ (.int .i64 I)).setCell ⟨p, 1, none⟩ (.slice a2 M.length c2))
   have kp : ∀ g, g ≠ p → w3.heap[g]? = w2.heap[g]? := fun g hg => by rw [hw3]; exact P.put1 I _ g hg
   have O9 : FOwn ptEnc 11 113 w.heap.size w3 (.slice a2 M.length c2) M := (O2.base (by omega)).keep (fun g e => kp g (by have := lo2 g e; omega))
   have Q9 : FOwn ouEnc 8 92 (p + 1) w3 (.slice o2 OO.length d2) OO := (Q2.base (by omega)).keep (fun g e => kp g (by have := lq2 g e; omega))
   have S9 : SdO (p + 1) w3 a5 c5 S := SO.keep (fun g hg _ _ => kp g (by omega))
   have A9 := A.keep (kp w.heap.size (by omega))
   have B9 : Below w.heap.size w w3 := by rw [hw3]; exact (B3.setCell (p := ⟨p, 0, none⟩) (by show _ ≤ p; omega) _).setCell (p := ⟨p, 1, none⟩) (by show _ ≤ p; omega) _
   have hne9 : ∀ g, (Value.slice a2 M.length c2).ownBlock = some g → g ≠ p := fun g e => by have := lo2 g e; omega
   rw [← hw3] at P9
   clear O2 Q2 SO A B3 lo2 lq2
   obtain ⟨⟨p0, p1⟩, pf⟩ := P
   have g0 := pf 0
   have g1 := pf 1
   clear pf
   go_upto_region 7 with fail
   rw [← hw3]
   clear hw3 kp p0 p1 g0 g1
   go_wp2_with fail
   go_at_call 70
   refine (saidI a5 o2 c5 d2 S OO w3 S9.view Q9.view.2 (fun e => S9.nil0 e) Q9.capn (by omega) (by omega)).mono ?_
   rintro e w4 ⟨a6, c6, rfl, S6, k4⟩
   have sz3 := P9.lt
   have hs4 : Hid (lastS (outsA I N (x.ln.take (k + 1))) = lastS (S ++ OO)) := hs3.out.symm
   obtain ⟨T, hT⟩ := mk_ (lastS (S ++ OO))
   rw [← hT] at S6 hs4 ⊢
   clear hT hs3 Q9 S9
   have P9 := P9.below k4 P9.lt
   have A9 := A9.below k4 A9.lt
   have O9 := O9.later k4
   have B9 := B9.trans (k4.mono B9.size)
   have S6 := S6.base (b2 := p + 1) (by omega)
   clear k4
   go_wp2
   go_roundw
   case rel => exact ⟨k + 1, a2, c2, M, a6, c6, T, by omega, by go_num, rfl, hst2, hs4, P9, O9, hne9, S6, A9, B9⟩
   case measure => simp [intOf]; omega
  ·
   obtain rfl : k = x.ln.length := by omega
   rw [List.take_length] at hS
   have cc := A
   obtain ⟨a0, a1, a2, a3, a4, a5, a6, a7, a8, a9⟩ := cc
   go_wp2_with fail
   go_at_call 71
   clear a0 a1 a2 a3 a4 a5 a6 a7 a8 a9
   refine (ouEql x.aS a5 x.cS c5 x.sd S wr J.v.s SO.view (by omega) (by omega)).mono ?_
   rintro e u9 ⟨⟨rb, rfl, hrb⟩, kq⟩
   have B := B.trans (kq.mono B.size)
   replace hrb : Hid _ := hrb
   clear kq SO P O A J
   go_wp2
   go_ret
   exact ⟨YN.is (by rw [hQ2.out, hS.out]; exact hrb.out.trans eq_comm), B⟩
set_option linter.unusedSimpArgs false in
set_option maxHeartbeats 4000000 in
theorem jAllI (x : BxD) (w : World) (hJ : BxJ w x) :
  Calls Tryz.prog 11 #[.agg #[.int .i64 x.id, .int .i64 x.po, .int .i64 x.rg.ep, .int .i64 x.rg.ow, .int .i64 x.rg.pa, .slice x.aT x.two.length x.cT, .slice x.aN x.net.length x.cN, .slice x.aG x.ga.length x.cG, .slice x.aL x.ln.length x.cL, .slice x.aS x.sd.length x.cS]] w fun e w' => YN e (bxOk x.p = true ∧ gatesJ x.p ∧ saidJ x.p ∧ ownJ x.p ∧ hasJ x.p) ∧ Below w.heap.size w w' := by
 obtain ⟨Q, hQ⟩ : ∃ Q : Prop, Q = (bxOk x.p = true ∧ gatesJ x.p ∧ saidJ x.p ∧ ownJ x.p ∧ hasJ x.p) := ⟨_, rfl⟩
 rw [← hQ]
 have hQ2 : Hid ((bxOk x.p = true ∧ ∀ k, k < 4 → ([gatesJ x.p, saidJ x.p, ownJ x.p, hasJ x.p] : List Prop).getD k True) ↔ Q) := by
  unfold Hid
  rw [hQ]
  constructor
  ·
   rintro ⟨h0, h⟩
   exact ⟨h0, h 0 (by decide), h 1 (by decide), h 2 (by decide), h 3 (by decide)⟩
  ·
   rintro ⟨h0, q0, q1, q2, q3⟩
   refine ⟨h0, fun k hk => ?_⟩
   rcases (by omega : k = 0 ∨ k = 1 ∨ k = 2 ∨ k = 3) with rfl | rfl | rfl | rfl
   ·
    exact q0
   ·
    exact q1
   ·
    exact q2
   ·
    exact q3
 clear hQ
 obtain ⟨y, hy⟩ := mk_ (w.alloc (Obj.cells #[.int .i64 x.id, .int .i64 x.po, .int .i64 x.rg.ep, .int .i64 x.rg.ow, .int .i64 x.rg.pa, .slice x.aT x.two.length x.cT, .slice x.aN x.net.length x.cN, .slice x.aG x.ga.length x.cG, .slice x.aL x.ln.length x.cL, .slice x.aS x.sd.length x.cS] 39))
 have B : Below w.heap.size w y := by rw [hy]; exact below_new _
 have A : BxAt y w.heap.size x := by rw [hy]; exact BxAt.new w _ x
 have J := hJ.later B
 go_enter Tryz.func11, Tryz.ntmps11
 go_upto_region 1 with fail
 rw [← hy]
 clear hy
 have cc := A
 obtain ⟨a0, a1, a2, a3, a4, a5, a6, a7, a8, a9⟩ := cc
 go_wp2_with fail
 go_at_call 27
 clear a0 a1 a2 a3 a4 a5 a6 a7 a8 a9
 obtain ⟨y2, hy2⟩ := mk_ (y.alloc (Obj.cells #[.func (.func 38) #[] #[], .func (.func 39) #[] #[], .func (.func 28) #[] #[], .func (.func 29) #[] #[]] 97))
 have V2 : FView fnEnc y2 (some ⟨y.heap.size, 0, none⟩) [38, 39, 28, 29] := by
  rw [hy2]
  intro _
  refine ⟨y.heap.size, 0, rfl, fun j v hv => ?_⟩
  simp only [fcells, fnEnc, List.append_nil, List.cons_append, List.nil_append] at hv
  have hj : j < 4 := (List.getElem?_eq_some_iff.1 hv).1
  rcases (by omega : j = 0 ∨ j = 1 ∨ j = 2 ∨ j = 3) with rfl | rfl | rfl | rfl <;> (cases hv; simp [go_sem])
 have kq : Below y.heap.size y y2 := by rw [hy2]; exact below_new _
 rw [← hy2]
 have J := J.later kq
 have B := B.trans (kq.mono B.size)
 clear hy2 kq A
 refine (judgeI x [38, 39, 28, 29] (fun k => ([gatesJ x.p, saidJ x.p, ownJ x.p, hasJ x.p] : List Prop).getD k True) (some ⟨y.heap.size, 0, none⟩) 4 y2 J V2 (by decide) (fun k hk => ?_) (fun h0 k hk w' hj => ?_)).mono ?_
 ·
  have hk : k < 4 := hk
  rcases (by omega : k = 0 ∨ k = 1 ∨ k = 2 ∨ k = 3) with rfl | rfl | rfl | rfl
  ·
   exact enters_of Tryz.func38 (by kernel_rfl) rfl
  ·
   exact enters_of Tryz.func39 (by kernel_rfl) rfl
  ·
   exact enters_of Tryz.func28 (by kernel_rfl) rfl
  ·
   exact enters_of Tryz.func29 (by kernel_rfl) rfl
 ·
  have hk : k < 4 := hk
  rcases (by omega : k = 0 ∨ k = 1 ∨ k = 2 ∨ k = 3) with rfl | rfl | rfl | rfl
  ·
   exact gatesOfI x w' hj h0
  ·
   exact saidOfI x w' hj h0
  ·
   exact ownRI x w' hj h0
  ·
   exact heirI x w' hj h0
 ·
  rintro e u9 ⟨⟨rb, rfl, hrb⟩, kq⟩
  have B := B.trans (kq.mono B.size)
  have hrb : Hid (rb = true ↔ Q) := by unfold Hid; rw [← hQ2.out]; exact hrb
  clear kq J V2
  go_wp2
  go_ret
  exact ⟨YN.is hrb.out, B⟩
end Go.Proofs.YtnpiljegdiconabGreat
