import Derived.Test.YtnpiljegdiconaaGreatQKWMg5
namespace Go.Proofs.YtnpiljegdiconaaGreat
open Go.ChangeShapes Go.WideShapes Go.ChangeAt Go.RowKit
open Go.ChangeMaps (open_string shut_string)
set_option linter.unusedVariables false
set_option maxRecDepth 100000
open Go.MuLone
theorem pe_Rr3 {w : World} {q i j : Nat} {u v : Value} (h : w.cell? ⟨q, j, none⟩ = some u) (hij : i ≠ j := by decide) : (w.setCell ⟨q, i, none⟩ v).cell? ⟨q, j, none⟩ = some u := (pset_else hij).trans h
theorem ps_Rr3 {w : World} {q i : Nat} {u v : Value} (h : w.cell? ⟨q, i, none⟩ = some u) : (w.setCell ⟨q, i, none⟩ v).cell? ⟨q, i, none⟩ = some v := pset_same h
theorem dropQ {P : Program} {reg : Code} {K : Act → World → Prop} {Q : Exit → Act → World → Prop} {a : Act} {W : World} (h : Code.wp P reg (Exit.then K (fun _ _ _ => False)) a W) : Code.wp P reg (Exit.then K Q) a W :=
 Code.wp_mono (fun e a w h => by cases e <;> first | exact h | exact (h : False).elim) h
set_option maxHeartbeats 2000000 in
theorem regOfI (r : Rg) (w : World) :
  Calls Tryz.prog 55 #[.agg #[.int .i64 r.ep, .int .i64 r.ow, .int .i64 r.pa]] w fun e w' => ∃ q, e = .returned (.pointer (some ⟨q, 0, none⟩)) ∧ GBox w' q 0 r ∧ w.heap.size < q ∧ Below w.heap.size w w' := by
 obtain ⟨y, hy⟩ := mk_ ((w.alloc (Obj.cells #[.int .i64 r.ep, .int .i64 r.ow, .int .i64 r.pa] 25)).alloc (Obj.cells #[.int .i64 0, .int .i32 0, .int .u32 0, .int .i64 r.ow, .int .i64 r.pa] 157));have B0 : Below w.heap.size w y := by rw [hy]; exact ((Below.refl _ _).alloc (Nat.le_refl _) _).alloc (by simp) _
 have A : RgAt y w.heap.size r := by rw [hy]; constructor <;> simp [go_sem]
 have G : GBox y (w.heap.size + 1) 0 ⟨0, r.ow, r.pa⟩ := by rw [hy]; constructor <;> simp [go_sem]
 go_enter Tryz.func55, Tryz.ntmps55
 go_upto_region 2 with fail
 rw [← hy];clear hy;refine wp_region_held (S := fun Y => RgAt Y w.heap.size r) (by kernel_rfl) ?_;change wpAnyH _ _ _ _ _ _ _ _ (World.drew _);have kd : Below y.heap.size y y.drew := (Below.refl _ _).drew;obtain ⟨u0, hu0⟩ := mk_ y.drew;rw [← hu0] at kd ⊢;clear hu0;have hs0 : RgAt u0 w.heap.size r := A.below kd A.lt;have G0 := G.below kd G.lt;refine tw 0 10 (.pointer (some ⟨w.heap.size + 1, 0, none⟩)) ?_;refine tw 1 11 (.pointer (some ⟨w.heap.size + 1, 0, none⟩)) ?_;refine tw 2 12 (.pointer (some ⟨w.heap.size + 1, 0, none⟩)) ?_;refine tw 3 13 (.pointer (some ⟨w.heap.size, 0, none⟩)) ?_;refine tw 4 14 (.int .i64 r.ep) ?_ (hy := by intro Y hSw; obtain ⟨X0, X1, X2⟩ := hSw; go_simp);refine w1 5 fun Kz hKz => ?_
 go_simp
 go_at_call 124
 refine (storeG r.ep _ (w.heap.size + 1) u0 G0.c0 (G0.fr 0)).mono ?_;rintro e u1 ⟨rfl, hu1⟩;have G1 : GBox u1 (w.heap.size + 1) 0 r := by rw [hu1]; exact G0.setEp r.ep
 have hs1 : RgAt u1 w.heap.size r := hs0.keep (by rw [hu1]; exact Below.heap_setCell _ _ _ _ (by show w.heap.size ≠ w.heap.size + 1; omega));have B1 : Below w.heap.size w u1 := by rw [hu1]; exact (B0.trans (kd.mono B0.size)).setCell (p := ⟨w.heap.size + 1, 0, none⟩) (by show _ ≤ w.heap.size + 1; omega) _
 clear hu1;refine hKz _ _ ⟨hs1, ?_⟩;clear hKz Kz;refine wpAnyH_done (by kernel_rfl) ?_ _;go_wp2
 go_ret
 exact ⟨_, rfl, G1, by omega, B1⟩
theorem RgBox.set0 {w : World} {q : Nat} {r : Rg} (h : RgBox w q r) (x : Int) : RgBox (w.setCell ⟨q, 0, none⟩ (.int .i64 x)) q ⟨x, r.ow, r.pa⟩ := by
 obtain ⟨⟨h0, h1, h2⟩, hf⟩ := h;exact ⟨⟨pset_same h0, (pset_else (by decide)).trans h1, (pset_else (by decide)).trans h2⟩, fun i => by rw [World.frozen?_setCell]; exact hf i⟩
theorem RgBox.set1 {w : World} {q : Nat} {r : Rg} (h : RgBox w q r) (x : Int) : RgBox (w.setCell ⟨q, 1, none⟩ (.int .i64 x)) q ⟨r.ep, x, r.pa⟩ := by
 obtain ⟨⟨h0, h1, h2⟩, hf⟩ := h;exact ⟨⟨(pset_else (by decide)).trans h0, pset_same h1, (pset_else (by decide)).trans h2⟩, fun i => by rw [World.frozen?_setCell]; exact hf i⟩
theorem RgBox.set2 {w : World} {q : Nat} {r : Rg} (h : RgBox w q r) (x : Int) : RgBox (w.setCell ⟨q, 2, none⟩ (.int .i64 x)) q ⟨r.ep, r.ow, x⟩ := by
 obtain ⟨⟨h0, h1, h2⟩, hf⟩ := h;exact ⟨⟨(pset_else (by decide)).trans h0, (pset_else (by decide)).trans h1, pset_same h2⟩, fun i => by rw [World.frozen?_setCell]; exact hf i⟩
theorem Turned.setHi {q p : Nat} {o : Option Nat} {w w' : World} (h : Turned q o w w') (hp : w.heap.size ≤ p) (i : Nat) (v : Value) : Turned q o w (w'.setCell ⟨p, i, none⟩ v) :=
 ⟨h.os, h.tape, h.output, by have := h.size; simpa using this, fun k hk h1 h2 => (Below.heap_setCell _ _ _ _ (by show k ≠ p; omega)).trans (h.block k hk h1 h2)⟩
set_option maxHeartbeats 4000000 in
theorem gToldI (r : Rg) (q : Nat) (w : World) (G : GBox w q 0 r) :
  Calls Tryz.prog 61 #[.pointer (some ⟨q, 0, none⟩)] w fun e w' => e = .returned (.agg #[.int .i64 r.ep, .int .i64 r.ow, .int .i64 r.pa]) ∧ GBox w' q 0 r ∧ Turned q none w w' := by
 have lq := G.lt;obtain ⟨y, hy⟩ := mk_ (w.alloc (Obj.cells #[.int .i64 0, .int .i64 0, .int .i64 0] 25));have T0 : Turned q none w y := by
  rw [hy];have B : Below w.heap.size w (w.alloc (Obj.cells #[.int .i64 0, .int .i64 0, .int .i64 0] 25)) := below_new _;exact ⟨B.os, B.tape, B.output, B.size, fun k hk _ _ => B.block k hk⟩
 have Z : RgBox y w.heap.size ⟨0, 0, 0⟩ := by rw [hy]; refine ⟨?_, fun i => ?_⟩; constructor <;> simp [go_sem]; simp [go_sem]
 have G : GBox y q 0 r := by rw [hy]; exact G.below (below_new _) lq
 go_enter_defers Tryz.func61, Tryz.ntmps61
 go_wp2_with fail
 go_at_call 128
 rw [← hy];clear hy;refine (lock_free Tryz.muLib ⟨q, 1, none⟩ y G.c1 (G.fr 1)).mono ?_;rintro e w' ⟨rfl, rfl⟩;obtain ⟨v, hv⟩ := mk_ (y.setCell ⟨q, 1, none⟩ (.int .i32 1));have G1 : GBox v q 1 r := by rw [hv]; exact G.lock 1
 have T1 : Turned q none w v := by rw [hv]; exact T0.set 1 _
 have Z1 : RgBox v w.heap.size ⟨0, 0, 0⟩ := by rw [hv]; exact Z.keep (Below.heap_setCell _ _ _ _ (by show w.heap.size ≠ q; omega))
 have sv : y.heap.size ≤ v.heap.size := by rw [hv]; simp
 rw [← hv];clear hv G Z;go_upto_region 3 with fail
 refine dropQ ?_;refine wp_region_held (S := fun Y => GBox Y q 1 r) (by kernel_rfl) ?_;change wpAnyH _ _ _ _ _ _ _ _ (World.drew _);have kd : Below v.heap.size v v.drew := (Below.refl _ _).drew;obtain ⟨u0, hu0⟩ := mk_ v.drew;rw [← hu0] at kd ⊢;clear hu0;have hs0 : GBox u0 q 1 r := G1.below kd G1.lt;have Z0 := Z1.below kd Z1.lt;have Td : Turned q none w u0 := ⟨kd.os.trans T1.os, kd.tape.trans T1.tape, kd.output.trans T1.output, Nat.le_trans T1.size kd.size, fun k hk h1 h2 => (kd.block k (by have := T1.size; omega)).trans (T1.block k hk h1 h2)⟩;refine tw 0 10 (.pointer (some ⟨q, 0, none⟩)) ?_;refine tw 2 12 (.pointer (some ⟨q, 0, none⟩)) ?_;refine tw 3 13 (.pointer (some ⟨q, 0, none⟩)) ?_;refine tw 4 14 (.pointer (some ⟨q, 3, none⟩)) ?_;refine tw 5 15 (.int .i64 r.ow) ?_ (hy := by intro Y hSw; obtain ⟨X0, X1, X2, X3, X4, XF⟩ := hSw; go_simp);refine tw 6 16 (.pointer (some ⟨q, 0, none⟩)) ?_;refine tw 7 17 (.pointer (some ⟨q, 0, none⟩)) ?_;refine tw 8 18 (.pointer (some ⟨q, 4, none⟩)) ?_;refine tw 9 19 (.int .i64 r.pa) ?_ (hy := by intro Y hSw; obtain ⟨X0, X1, X2, X3, X4, XF⟩ := hSw; go_simp);refine w1 1 fun Kz hKz => ?_
 go_simp
 go_at_call 60
 refine (epochI r.ep q u0 hs0.c0).mono ?_;rintro e u1 ⟨rfl, rfl⟩;refine hKz _ _ ⟨hs0, ?_⟩;clear hKz Kz;refine w1 10 fun Kz hKz => ?_
 obtain ⟨⟨z0, z1, z2⟩, zf⟩ := id Z0;have g0 := zf 0;have g1 := zf 1;have g2 := zf 2;go_simp
 clear z0 z1 z2 zf g0 g1 g2;obtain ⟨s0, hs⟩ := mk_ (((u1.setCell ⟨w.heap.size, 0, none⟩ (.int .i64 0)).setCell ⟨w.heap.size, 1, none⟩ (.int .i64 0)).setCell ⟨w.heap.size, 2, none⟩ (.int .i64 0));have Zs0 : RgBox s0 w.heap.size ⟨0, 0, 0⟩ := by rw [hs]; exact Z0.put ⟨0, 0, 0⟩
 have Ss0 : GBox s0 q 1 r := hs0.keep (by rw [hs]; exact heap_put3 _ _ _ ⟨0, 0, 0⟩ (by omega));have Ts0 : Turned q none w s0 := by rw [hs]; exact ((Td.setHi (by omega) _ _).setHi (by omega) _ _).setHi (by omega) _ _
 rw [← hs];clear hs Z0;refine hKz _ _ ⟨Ss0, ?_⟩;clear hKz Kz;refine tw 11 20 (.pointer (some ⟨w.heap.size, 0, none⟩)) ?_;refine w1 12 fun Kz hKz => ?_
 obtain ⟨⟨z0, z1, z2⟩, zf⟩ := id Zs0;have g0 := zf 0;have g1 := zf 1;have g2 := zf 2;go_simp
 clear z0 z1 z2 zf g0 g1 g2;obtain ⟨s1, hs1⟩ := mk_ (s0.setCell ⟨w.heap.size, 0, none⟩ (.int .i64 r.ep));have Zs1 : RgBox s1 w.heap.size ⟨r.ep, 0, 0⟩ := by rw [hs1]; exact Zs0.set0 _
 have Ss1 : GBox s1 q 1 r := Ss0.keep (by rw [hs1]; exact Below.heap_setCell _ _ _ _ (by show q ≠ w.heap.size; omega));have Ts1 : Turned q none w s1 := by rw [hs1]; exact Ts0.setHi (by omega) _ _
 rw [← hs1];clear hs1 Zs0;refine hKz _ _ ⟨Ss1, ?_⟩;clear hKz Kz;refine tw 13 21 (.pointer (some ⟨w.heap.size, 1, none⟩)) ?_;refine w1 14 fun Kz hKz => ?_
 obtain ⟨⟨z0, z1, z2⟩, zf⟩ := id Zs1;have g0 := zf 0;have g1 := zf 1;have g2 := zf 2;go_simp
 clear z0 z1 z2 zf g0 g1 g2;obtain ⟨s2, hs2⟩ := mk_ (s1.setCell ⟨w.heap.size, 1, none⟩ (.int .i64 r.ow));have Zs2 : RgBox s2 w.heap.size ⟨r.ep, r.ow, 0⟩ := by rw [hs2]; exact Zs1.set1 _
 have Ss2 : GBox s2 q 1 r := Ss1.keep (by rw [hs2]; exact Below.heap_setCell _ _ _ _ (by show q ≠ w.heap.size; omega));have Ts2 : Turned q none w s2 := by rw [hs2]; exact Ts1.setHi (by omega) _ _
 rw [← hs2];clear hs2 Zs1;refine hKz _ _ ⟨Ss2, ?_⟩;clear hKz Kz;refine tw 15 22 (.pointer (some ⟨w.heap.size, 2, none⟩)) ?_;refine w1 16 fun Kz hKz => ?_
 obtain ⟨⟨z0, z1, z2⟩, zf⟩ := id Zs2;have g0 := zf 0;have g1 := zf 1;have g2 := zf 2;go_simp
 clear z0 z1 z2 zf g0 g1 g2;obtain ⟨s3, hs3⟩ := mk_ (s2.setCell ⟨w.heap.size, 2, none⟩ (.int .i64 r.pa));have Zs3 : RgBox s3 w.heap.size ⟨r.ep, r.ow, r.pa⟩ := by rw [hs3]; exact Zs2.set2 _
 have Ss3 : GBox s3 q 1 r := Ss2.keep (by rw [hs3]; exact Below.heap_setCell _ _ _ _ (by show q ≠ w.heap.size; omega));have Ts3 : Turned q none w s3 := by rw [hs3]; exact Ts2.setHi (by omega) _ _
 rw [← hs3];clear hs3 Zs2;refine hKz _ _ ⟨Ss3, ?_⟩;clear hKz Kz;refine wpAnyH_done (by kernel_rfl) ?_ _;have GF := Ss3.lock 0;have TF := Ts3.set 1 (.int .i32 0);have ZF : RgAt (s3.setCell ⟨q, 1, none⟩ (.int .i32 0)) w.heap.size ⟨r.ep, r.ow, r.pa⟩ := Zs3.at_.keep (Below.heap_setCell _ _ _ _ (by show w.heap.size ≠ q; omega));obtain ⟨x0, x1, x2⟩ := ZF;go_wp2
 refine leaves_cons (f := 129) (args := #[.pointer (some ⟨q, 1, none⟩)]) (by simp) (by simp [go_sem]) ?_;refine (unlock_deferred Tryz.muLib ⟨q, 1, none⟩ .returning _ Ss3.c1 (Ss3.fr 1)).mono ?_;rintro e u' w'' ⟨rfl, rfl, rfl⟩;refine ⟨.agg #[.int .i64 r.ep, .int .i64 r.ow, .int .i64 r.pa], by simp [results, Tryz.results61, go_sem, *], rfl, GF, TF⟩
def handB (r : Rg) (s li : Int) : Bool := decide (s ≠ r.ow) && (decide (0 < li) && decide (li = r.pa))
def handR (r : Rg) (s li : Int) : Rg := if handB r s li then ⟨r.ep + 1, s, 0⟩ else r
set_option maxHeartbeats 4000000 in
theorem handToI (r : Rg) (s li : Int) (q : Nat) (w : World) (G : GBox w q 0 r) (h1 : 1 ≤ r.ep) (h2 : r.ep ≤ 100000) :
  Calls Tryz.prog 58 #[.pointer (some ⟨q, 0, none⟩), .int .i64 s, .int .i64 li] w fun e w' => e = .returned (.bool (handB r s li)) ∧ GBox w' q 0 (handR r s li) ∧ Turned q none w w' := by
 obtain ⟨R, hR⟩ := mk_ (handB r s li);rw [← hR];replace hR : Hid _ := hR;go_enter_defers Tryz.func58, Tryz.ntmps58
 go_wp2_with fail
 go_at_call 128
 refine (lock_free Tryz.muLib ⟨q, 1, none⟩ w G.c1 (G.fr 1)).mono ?_;rintro e w' ⟨rfl, rfl⟩;obtain ⟨v, hv⟩ := mk_ (w.setCell ⟨q, 1, none⟩ (.int .i32 1));have G1 : GBox v q 1 r := by rw [hv]; exact G.lock 1
 have T1 : Turned q none w v := by rw [hv]; exact (Turned.refl _ _ _).set 1 _
 rw [← hv];clear hv G;have c0 := G1.c0;have c3 := G1.c3;have c4 := G1.c4;by_cases e1 : s = r.ow
 ·
  have hN : Hid (R = false) := by unfold Hid; rw [hR.out]; unfold handB; rw [decide_eq_false (show ¬ (s ≠ r.ow) from fun h => h e1)]; rfl
  have d1 : decide (s = r.ow) = true := decide_eq_true e1;have b1 : (s == r.ow) = true := by simpa using e1
  have hQ : Hid (handR r s li = r) := by unfold Hid handR; rw [← hR.out, hN.out]; rfl
  replace e1 : Hid _ := e1;go_wp2
  refine leaves_cons (f := 129) (args := #[.pointer (some ⟨q, 1, none⟩)]) (by simp) (by simp [go_sem]) ?_;refine (unlock_deferred Tryz.muLib ⟨q, 1, none⟩ .returning _ G1.c1 (G1.fr 1)).mono ?_;rintro e u' w'' ⟨rfl, rfl, rfl⟩;exact ⟨_, results_tmp rfl _ _ _, by rw [hN.out]; rfl, by rw [hQ.out]; exact G1.lock 0, T1.set 1 _⟩
 have d1 : decide (s = r.ow) = false := decide_eq_false e1;have b1 : (s == r.ow) = false := by simpa using e1
 by_cases e2 : 0 < li
 ·
  have d2 : decide (li ≤ 0) = false := decide_eq_false (by omega);by_cases e3 : li = r.pa
  ·
   have d3 : (li != r.pa) = false := by simpa using e3
   have d3' : decide (li = r.pa) = true := decide_eq_true e3;have hN : Hid (R = true) := by unfold Hid; rw [hR.out]; unfold handB; rw [decide_eq_true (show s ≠ r.ow from e1), decide_eq_true e2, decide_eq_true e3]; rfl
   have hQ : Hid (handR r s li = ⟨r.ep + 1, s, 0⟩) := by unfold Hid handR; rw [← hR.out, hN.out]; rfl
   replace e1 : Hid _ := e1;replace e3 : Hid _ := e3;have f3 := G1.fr 3;have f4 := G1.fr 4;have G2 := (G1.setOw s).setPa 0;have T2 := (T1.set 3 (.int .i64 s)).set 4 (.int .i64 0);go_wp2_with fail
   go_at_call 130
   obtain ⟨v2, hv2⟩ := mk_ ((v.setCell ⟨q, 3, none⟩ (.int .i64 s)).setCell ⟨q, 4, none⟩ (.int .i64 0));rw [← hv2] at G2 T2 ⊢;clear hv2 c0 c3 c4 f3 f4;refine (addG r.ep q v2 G2.c0 (G2.fr 0) h1 h2).mono ?_;rintro e w' ⟨rfl, rfl⟩;have G3 := G2.setEp (r.ep + 1);have T3 := T2.set 0 (.int .i64 (r.ep + 1));go_wp2
   refine leaves_cons (f := 129) (args := #[.pointer (some ⟨q, 1, none⟩)]) (by simp) (by simp [go_sem]) ?_;refine (unlock_deferred Tryz.muLib ⟨q, 1, none⟩ .returning _ G3.c1 (G3.fr 1)).mono ?_;rintro e u' w'' ⟨rfl, rfl, rfl⟩;exact ⟨_, results_tmp rfl _ _ _, by rw [hN.out]; rfl, by rw [hQ.out]; exact G3.lock 0, T3.set 1 _⟩
  have hN : Hid (R = false) := by unfold Hid; rw [hR.out]; unfold handB; rw [decide_eq_true (show s ≠ r.ow from e1), decide_eq_true e2, decide_eq_false e3]; rfl
  have d3 : (li != r.pa) = true := by simpa using e3
  have d3' : decide (li = r.pa) = false := decide_eq_false e3;have hQ : Hid (handR r s li = r) := by unfold Hid handR; rw [← hR.out, hN.out]; rfl
  replace e3 : Hid _ := e3;replace e1 : Hid _ := e1;go_wp2
  refine leaves_cons (f := 129) (args := #[.pointer (some ⟨q, 1, none⟩)]) (by simp) (by simp [go_sem]) ?_;refine (unlock_deferred Tryz.muLib ⟨q, 1, none⟩ .returning _ G1.c1 (G1.fr 1)).mono ?_;rintro e u' w'' ⟨rfl, rfl, rfl⟩;exact ⟨_, results_tmp rfl _ _ _, by rw [hN.out]; rfl, by rw [hQ.out]; exact G1.lock 0, T1.set 1 _⟩
 have hN : Hid (R = false) := by unfold Hid; rw [hR.out]; unfold handB; rw [decide_eq_true (show s ≠ r.ow from e1), decide_eq_false e2]; rfl
 have d2 : decide (li ≤ 0) = true := decide_eq_true (by omega);have hQ : Hid (handR r s li = r) := by unfold Hid handR; rw [← hR.out, hN.out]; rfl
 replace e2 : Hid _ := e2;replace e1 : Hid _ := e1;go_wp2
 refine leaves_cons (f := 129) (args := #[.pointer (some ⟨q, 1, none⟩)]) (by simp) (by simp [go_sem]) ?_;refine (unlock_deferred Tryz.muLib ⟨q, 1, none⟩ .returning _ G1.c1 (G1.fr 1)).mono ?_;rintro e u' w'' ⟨rfl, rfl, rfl⟩;exact ⟨_, results_tmp rfl _ _ _, by rw [hN.out]; rfl, by rw [hQ.out]; exact G1.lock 0, T1.set 1 _⟩
theorem MgBox.as {w : World} {q : Nat} {m : Mi} {v : Value} (h : MgBox w q m v) (x : Int) : MgBox (((w.setCell ⟨q, 3, none⟩ (.int .i64 x)).setCell ⟨q, 5, none⟩ (.int .i64 0)).setCell ⟨q, 6, none⟩ (.int .i64 0)) q ⟨m.up, m.li, x, m.lg, m.sd, 0, 0⟩ v := by
 obtain ⟨h0, h1, h2, h3, h4, h5, h6, hf⟩ := h;refine ⟨pe_Rr3 (pe_Rr3 (pe_Rr3 h0)), pe_Rr3 (pe_Rr3 (pe_Rr3 h1)), pe_Rr3 (pe_Rr3 (pe_Rr3 h2)), pe_Rr3 (pe_Rr3 (ps_Rr3 h3)), pe_Rr3 (pe_Rr3 (pe_Rr3 h4)), pe_Rr3 (ps_Rr3 (pe_Rr3 h5)), ps_Rr3 (pe_Rr3 (pe_Rr3 h6)), fun i => ?_⟩;rw [World.frozen?_setCell, World.frozen?_setCell, World.frozen?_setCell];exact hf i
set_option maxHeartbeats 2000000 in
theorem mindAsI (m : Mi) (x : Int) (q : Nat) (v : Value) (w : World) (M : MgBox w q m v) :
  Calls Tryz.prog 59 #[.pointer (some ⟨q, 0, none⟩), .int .i64 x] w fun e w' => e = .returned (.tuple #[]) ∧ MgBox w' q ⟨m.up, m.li, x, m.lg, m.sd, 0, 0⟩ v ∧ Turned q none w w' := by
 have N := M.as x;have T := (((Turned.refl q none w).set 3 (.int .i64 x)).set 5 (.int .i64 0)).set 6 (.int .i64 0);obtain ⟨c0, c1, c2, c3, c4, c5, c6, fr⟩ := M;have f3 := fr 3;have f5 := fr 5;have f6 := fr 6;clear fr;go_enter Tryz.func59, Tryz.ntmps59
 go_wp2
 go_end0
 exact ⟨rfl, N, T⟩
set_option maxHeartbeats 4000000 in
theorem mindsI (r : Rg) (s : Int) (m : Mi) (ad : Option Addr) (cap : Nat) (w : World) (hv : FView ikEnc w ad m.lg) (hl : m.lg.length ≤ 1048577) :
  Calls Tryz.prog 18 #[.agg #[.int .i64 r.ep, .int .i64 r.ow, .int .i64 r.pa], .int .i64 s, .agg #[.bool m.up, .int .i64 m.li, .int .i64 m.ep, .slice ad m.lg.length cap, .int .i64 m.sd, .int .i64 m.ac, .int .i64 m.al]] w fun e w' => e = .returned (.bool (mindsB r s m)) ∧ Below w.heap.size w w' := by
 have hB := hv.lt ikEnc_len (by omega);obtain ⟨R, hR⟩ := mk_ (mindsB r s m);rw [← hR];replace hR : Hid _ := hR;obtain ⟨y, hy⟩ := mk_ ((w.alloc (Obj.cells #[.int .i64 r.ep, .int .i64 r.ow, .int .i64 r.pa] 25)).alloc (Obj.cells #[.bool m.up, .int .i64 m.li, .int .i64 m.ep, .slice ad m.lg.length cap, .int .i64 m.sd, .int .i64 m.ac, .int .i64 m.al] 28));have B0 : Below w.heap.size w y := by rw [hy]; exact ((Below.refl _ _).alloc (Nat.le_refl _) _).alloc (by simp) _
 have A : RgAt y w.heap.size r := by rw [hy]; constructor <;> simp [go_sem]
 have M : MiAt y (w.heap.size + 1) m (.slice ad m.lg.length cap) := by rw [hy]; constructor <;> simp [go_sem]
 have S0 := M.lt;have hv1 := hv.below B0 hB;clear hv hB;go_enter Tryz.func18, Tryz.ntmps18
 go_upto_region 1 with fail
 rw [← hy];clear hy;refine wp_region_held (S := fun Y => Below y.heap.size y Y) (by kernel_rfl) ?_;change wpAnyH _ _ _ _ _ _ _ _ (World.drew _);have hb0 : Below y.heap.size y y.drew := (Below.refl _ _).drew;obtain ⟨u0, hy0⟩ := mk_ y.drew;rw [← hy0] at hb0 ⊢;clear hy0;refine tw 0 7 (.agg #[.int .i64 r.ep, .int .i64 r.ow, .int .i64 r.pa]) ?_ (hy := by intro Y hSw; obtain ⟨X0, X1, X2⟩ := A.below hSw A.lt; go_simp);refine w1 1 fun Kz hKz => ?_
 go_simp
 go_at_call 20
 refine (regOkI r u0).mono ?_;rintro e u1 ⟨rfl, kq⟩;have hb1 : Below y.heap.size y u1 := hb0.trans (kq.mono hb0.size);clear kq;refine hKz _ _ ⟨hb1, ?_⟩;clear hKz Kz;cases h1 : (rgOk r)
 ·
  replace h1 : Hid _ := h1;refine tw 2 9 (.bool false) ?_;refine ts 3 10 ?_;refine ts 4 11 ?_;refine tw 5 12 (.bool false) ?_;refine tw 6 13 (.bool false) ?_;refine ts 7 14 ?_;refine ts 8 15 ?_;refine tw 9 16 (.bool false) ?_;refine tw 10 17 (.bool false) ?_;refine ts 11 18 ?_;refine ts 13 20 ?_;refine ts 14 21 ?_;refine ts 15 22 ?_;refine ts 12 19 ?_;refine ts 16 23 ?_;refine tw 17 24 (.bool false) ?_;refine tw 18 6 (.bool false) ?_;refine wpAnyH_done (by kernel_rfl) ?_ _;have hN : Hid (R = false) := by unfold Hid; rw [hR.out]; unfold mindsB; rw [h1.out]; rfl
  go_wp2
  go_ret
  exact ⟨by rw [hN.out]; rfl, B0.trans (hb1.mono B0.size)⟩
 replace h1 : Hid _ := h1;refine tw 2 9 (.bool true) ?_;refine tw 3 10 (.agg #[.bool m.up, .int .i64 m.li, .int .i64 m.ep, .slice ad m.lg.length cap, .int .i64 m.sd, .int .i64 m.ac, .int .i64 m.al]) ?_ (hy := by intro Y hSw; obtain ⟨X0, X1, X2, X3, X4, X5, X6⟩ := M.below hSw M.lt; go_simp);refine w1 4 fun Kz hKz => ?_
 go_simp
 go_at_call 57
 refine (miOkI m ad cap u1 (hv1.below hb1 (hv1.lt ikEnc_len (by omega))) hl).mono ?_;rintro e u2 ⟨rfl, kq⟩;have hb2 : Below y.heap.size y u2 := hb1.trans (kq.mono hb1.size);clear kq;refine hKz _ _ ⟨hb2, ?_⟩;clear hKz Kz;cases h2 : (miOk m)
 ·
  replace h2 : Hid _ := h2;refine tw 5 12 (.bool false) ?_;refine tw 6 13 (.bool false) ?_;refine ts 7 14 ?_;refine ts 8 15 ?_;refine tw 9 16 (.bool false) ?_;refine tw 10 17 (.bool false) ?_;refine ts 11 18 ?_;refine ts 13 20 ?_;refine ts 14 21 ?_;refine ts 15 22 ?_;refine ts 12 19 ?_;refine ts 16 23 ?_;refine tw 17 24 (.bool false) ?_;refine tw 18 6 (.bool false) ?_;refine wpAnyH_done (by kernel_rfl) ?_ _;have hN : Hid (R = false) := by unfold Hid; rw [hR.out]; unfold mindsB; rw [h1.out, h2.out]; rfl
  go_wp2
  go_ret
  exact ⟨by rw [hN.out]; rfl, B0.trans (hb2.mono B0.size)⟩
 replace h2 : Hid _ := h2;refine tw 5 12 (.bool true) ?_;refine tw 6 13 (.bool true) ?_;refine tw 7 14 (.pointer (some ⟨w.heap.size + 1, 0, none⟩)) ?_;refine tw 8 15 (.bool (m.up)) ?_ (hy := by intro Y hSw; obtain ⟨X0, X1, X2, X3, X4, X5, X6⟩ := M.below hSw M.lt; go_simp);cases h3 : (m.up)
 ·
  replace h3 : Hid _ := h3;refine tw 9 16 (.bool false) ?_;refine tw 10 17 (.bool false) ?_;refine ts 11 18 ?_;refine ts 13 20 ?_;refine ts 14 21 ?_;refine ts 15 22 ?_;refine ts 12 19 ?_;refine ts 16 23 ?_;refine tw 17 24 (.bool false) ?_;refine tw 18 6 (.bool false) ?_;refine wpAnyH_done (by kernel_rfl) ?_ _;have hN : Hid (R = false) := by unfold Hid; rw [hR.out]; unfold mindsB; rw [h1.out, h2.out, h3.out]; rfl
  go_wp2
  go_ret
  exact ⟨by rw [hN.out]; rfl, B0.trans (hb2.mono B0.size)⟩
 replace h3 : Hid _ := h3;refine tw 9 16 (.bool true) ?_;refine tw 10 17 (.bool true) ?_;refine tw 11 18 (.agg #[.int .i64 r.ep, .int .i64 r.ow, .int .i64 r.pa]) ?_ (hy := by intro Y hSw; obtain ⟨X0, X1, X2⟩ := A.below hSw A.lt; go_simp);refine tw 13 20 (.int .i64 s) ?_;refine tw 14 21 (.pointer (some ⟨w.heap.size + 1, 2, none⟩)) ?_;refine tw 15 22 (.int .i64 m.ep) ?_ (hy := by intro Y hSw; obtain ⟨X0, X1, X2, X3, X4, X5, X6⟩ := M.below hSw M.lt; go_simp);refine w1 12 fun Kz hKz => ?_
 go_simp
 go_at_call 55
 refine (regOfI r u2).mono ?_;rintro e u3 ⟨qg, rfl, G, lg, kq⟩;have hb3 : Below y.heap.size y u3 := hb2.trans (kq.mono hb2.size);have lg2 : y.heap.size ≤ qg := by have := hb2.size; omega
 clear kq lg;refine hKz _ _ ⟨hb3, ?_⟩;clear hKz Kz;refine w1 16 fun Kz hKz => ?_
 go_simp
 go_at_call 71
 refine (isOfI r s m.ep qg u3 G).mono ?_;rintro e u4 ⟨rfl, G', tq⟩;have hb4 : Below y.heap.size y u4 := hb3.trans (tq.below hb3.size lg2 (fun g e => by cases e));clear tq G';refine hKz _ _ ⟨hb4, ?_⟩;clear hKz Kz;refine tw 17 24 (.bool (decide (r.ow = s) && decide (r.ep = m.ep))) ?_;refine tw 18 6 (.bool (decide (r.ow = s) && decide (r.ep = m.ep))) ?_;refine wpAnyH_done (by kernel_rfl) ?_ _;have hN : Hid (R = (decide (r.ow = s) && decide (r.ep = m.ep))) := by unfold Hid; rw [hR.out]; unfold mindsB; rw [h1.out, h2.out, h3.out]; simp [eq_comm]
 go_wp2
 go_ret
 exact ⟨by rw [hN.out]; rfl, B0.trans (hb4.mono B0.size)⟩
def mayB (m : Mi) (p : Int) : Bool := decide (p = 0) || (decide (p = m.al) && decide (m.ac = (m.lg.length : Int)))
theorem pairsB_is (r : Rg) (s : Int) (m : Mi) (p : Int) : pairsB r s m p = (mindsB r s m && mayB m p) := rfl
set_option maxHeartbeats 2000000 in
theorem mayPairI (m : Mi) (p : Int) (ad : Option Addr) (cap : Nat) (w : World) :
  Calls Tryz.prog 67 #[.agg #[.bool m.up, .int .i64 m.li, .int .i64 m.ep, .slice ad m.lg.length cap, .int .i64 m.sd, .int .i64 m.ac, .int .i64 m.al], .int .i64 p] w fun e w' => e = .returned (.bool (mayB m p)) ∧ Below w.heap.size w w' := by
 obtain ⟨R, hR⟩ := mk_ (mayB m p);rw [← hR];replace hR : Hid _ := hR;obtain ⟨y, hy⟩ := mk_ (w.alloc (Obj.cells #[.bool m.up, .int .i64 m.li, .int .i64 m.ep, .slice ad m.lg.length cap, .int .i64 m.sd, .int .i64 m.ac, .int .i64 m.al] 28));have B0 : Below w.heap.size w y := by rw [hy]; exact below_new _
 have M : MiAt y w.heap.size m (.slice ad m.lg.length cap) := by rw [hy]; exact MiAt.new w _ _ _
 go_enter Tryz.func67, Tryz.ntmps67
 go_upto_region 1 with fail
 rw [← hy];clear hy;obtain ⟨a0, a1, a2, a3, a4, a5, a6⟩ := M;by_cases e1 : p = 0
 ·
  have d1 : decide (p = 0) = true := decide_eq_true e1;have b1 : (p == 0) = true := by simpa using e1
  have hN : Hid (R = true) := by unfold Hid; rw [hR.out]; unfold mayB; rw [decide_eq_true e1]; rfl
  replace e1 : Hid _ := e1;go_wp2
  go_ret
  exact ⟨by rw [hN.out]; rfl, B0⟩
 have d1 : decide (p = 0) = false := decide_eq_false e1;have b1 : (p == 0) = false := by simpa using e1
 by_cases e2 : p = m.al
 ·
  have d2 : decide (p = m.al) = true := decide_eq_true e2;have b2 : (p == m.al) = true := by simpa using e2
  by_cases e3 : m.ac = (m.lg.length : Int)
  ·
   have d3 : decide (m.ac = (m.lg.length : Int)) = true := decide_eq_true e3;have b3 : (m.ac == (m.lg.length : Int)) = true := by simpa using e3
   have hN : Hid (R = true) := by unfold Hid; rw [hR.out]; unfold mayB; rw [decide_eq_true e2, decide_eq_true e3]; simp
   replace e1 : Hid _ := e1;replace e2 : Hid _ := e2;replace e3 : Hid _ := e3;go_wp2
   go_ret
   exact ⟨by rw [hN.out]; rfl, B0⟩
  have d3 : decide (m.ac = (m.lg.length : Int)) = false := decide_eq_false e3;have b3 : (m.ac == (m.lg.length : Int)) = false := by simpa using e3
  have hN : Hid (R = false) := by unfold Hid; rw [hR.out]; unfold mayB; rw [decide_eq_false e1, decide_eq_true e2, decide_eq_false e3]; rfl
  replace e1 : Hid _ := e1;replace e2 : Hid _ := e2;replace e3 : Hid _ := e3;go_wp2
  go_ret
  exact ⟨by rw [hN.out]; rfl, B0⟩
 have d2 : decide (p = m.al) = false := decide_eq_false e2;have b2 : (p == m.al) = false := by simpa using e2
 have hN : Hid (R = false) := by unfold Hid; rw [hR.out]; unfold mayB; rw [decide_eq_false e1, decide_eq_false e2]; rfl
 replace e1 : Hid _ := e1;replace e2 : Hid _ := e2;go_wp2
 go_ret
 exact ⟨by rw [hN.out]; rfl, B0⟩
end Go.Proofs.YtnpiljegdiconaaGreat
