import Derived.Test.YtnpiljegdiconaaGreatProg
import Derived.Conc.MuLone
import Derived.KernelRfl
import Derived.Laws.LoneSync
import Derived.Test.YtnpiljegdiconaaGreatQM6
namespace Go.Proofs.YtnpiljegdiconaaGreat
open Go.ChangeShapes Go.WideShapes Go.ChangeAt Go.RowKit
open Go.ChangeMaps (open_string shut_string)
set_option linter.unusedVariables false
set_option maxRecDepth 100000
def VBoxD (w : World) (q : Nat) (r c b p : Int) : Prop := VecAt w q r c b p ∧ ∀ i, w.frozen? ⟨q, i, none⟩ = false
theorem VBoxD.keep {w w' : World} {q : Nat} {r c b p : Int} (h : VBoxD w q r c b p) (k : w'.heap[q]? = w.heap[q]?) : VBoxD w' q r c b p :=
 ⟨⟨(World.cell?_of_block (a := ⟨q, 0, none⟩) k).trans h.1.1, (World.cell?_of_block (a := ⟨q, 1, none⟩) k).trans h.1.2.1, (World.cell?_of_block (a := ⟨q, 2, none⟩) k).trans h.1.2.2.1, (World.cell?_of_block (a := ⟨q, 3, none⟩) k).trans h.1.2.2.2⟩, fun i => (World.frozen?_of_block (a := ⟨q, i, none⟩) k).trans (h.2 i)⟩
theorem VBoxD.lt {w : World} {q : Nat} {r c b p : Int} (h : VBoxD w q r c b p) : q < w.heap.size := World.block_lt_of_cell? w _ h.1.1
theorem VBoxD.new (w : World) (t : TypeId) (r c b p : Int) : VBoxD (w.alloc (Obj.cells #[.int .i64 r, .int .i64 c, .int .i64 b, .int .i64 p] t)) w.heap.size r c b p :=
 ⟨vecAt_box w t r c b p, fun i => by simp [go_sem]⟩
theorem VBoxD.alloc {w : World} {q : Nat} {r c b p : Int} (h : VBoxD w q r c b p) (o : Obj) : VBoxD (w.alloc o) q r c b p := h.keep (Below.heap_alloc w o q h.lt)
theorem VBoxD.grown {w w' : World} {q cb : Nat} {r c b p : Int} (h : VBoxD w q r c b p) (g : w.grownBy w' (some cb)) (hne : q ≠ cb) : VBoxD w' q r c b p := h.keep (g.block q h.lt (by simpa using hne))
theorem VBoxD.other {w : World} {q q' i : Nat} {r c b p : Int} {v : Value} (h : VBoxD w q r c b p) (hne : q ≠ q') : VBoxD (w.setCell ⟨q', i, none⟩ v) q r c b p := h.keep (Below.heap_setCell _ _ _ _ hne)
theorem set_same {w : World} {q i : Nat} {u v : Value} (h : w.cell? ⟨q, i, none⟩ = some u) : (w.setCell ⟨q, i, none⟩ v).cell? ⟨q, i, none⟩ = some v := cell_set_same ⟨_, h⟩
theorem set_else {w : World} {q i j : Nat} {v : Value} (h : i ≠ j) : (w.setCell ⟨q, i, none⟩ v).cell? ⟨q, j, none⟩ = w.cell? ⟨q, j, none⟩ := cell_set_ne (Ne.symm h)
theorem VBoxD.set0 {w : World} {q : Nat} {r c b p : Int} (x : Int) (h : VBoxD w q r c b p) : VBoxD (w.setCell ⟨q, 0, none⟩ (.int .i64 x)) q x c b p :=
 ⟨⟨set_same h.1.1, (set_else (by decide)).trans h.1.2.1, (set_else (by decide)).trans h.1.2.2.1, (set_else (by decide)).trans h.1.2.2.2⟩, fun i => by rw [World.frozen?_setCell]; exact h.2 i⟩
theorem VBoxD.set1 {w : World} {q : Nat} {r c b p : Int} (x : Int) (h : VBoxD w q r c b p) : VBoxD (w.setCell ⟨q, 1, none⟩ (.int .i64 x)) q r x b p :=
 ⟨⟨(set_else (by decide)).trans h.1.1, set_same h.1.2.1, (set_else (by decide)).trans h.1.2.2.1, (set_else (by decide)).trans h.1.2.2.2⟩, fun i => by rw [World.frozen?_setCell]; exact h.2 i⟩
theorem VBoxD.set2 {w : World} {q : Nat} {r c b p : Int} (x : Int) (h : VBoxD w q r c b p) : VBoxD (w.setCell ⟨q, 2, none⟩ (.int .i64 x)) q r c x p :=
 ⟨⟨(set_else (by decide)).trans h.1.1, (set_else (by decide)).trans h.1.2.1, set_same h.1.2.2.1, (set_else (by decide)).trans h.1.2.2.2⟩, fun i => by rw [World.frozen?_setCell]; exact h.2 i⟩
theorem VBoxD.set3 {w : World} {q : Nat} {r c b p : Int} (x : Int) (h : VBoxD w q r c b p) : VBoxD (w.setCell ⟨q, 3, none⟩ (.int .i64 x)) q r c b x :=
 ⟨⟨(set_else (by decide)).trans h.1.1, (set_else (by decide)).trans h.1.2.1, (set_else (by decide)).trans h.1.2.2.1, set_same h.1.2.2.2⟩, fun i => by rw [World.frozen?_setCell]; exact h.2 i⟩
theorem VBoxD.put {w : World} {q : Nat} {r c b p : Int} (r2 c2 b2 p2 : Int) (h : VBoxD w q r c b p) : VBoxD ((((w.setCell ⟨q, 0, none⟩ (.int .i64 r2)).setCell ⟨q, 1, none⟩ (.int .i64 c2)).setCell ⟨q, 2, none⟩ (.int .i64 b2)).setCell ⟨q, 3, none⟩ (.int .i64 p2)) q r2 c2 b2 p2 := (((h.set0 r2).set1 c2).set2 b2).set3 p2
structure DV (w : World) (cb : Nat) (ad : Option Addr) (len cap : Nat) (y : World) : Prop where
 cur : Cur y cb ad len cap
 gr : w.grownBy y (some cb)
theorem DV.src {w y : World} {cb : Nat} {ad : Option Addr} {len cap : Nat} {f : Nat → Int} (h : DV w cb ad len cap y) (hs : Src w cb ad len cap f) : Src y cb ad len cap f := hs.grown h.cur h.gr
theorem DV.start {w : World} {cb : Nat} {ad : Option Addr} {len cap : Nat} {f : Nat → Int} (hs : Src w cb ad len cap f) : DV w cb ad len cap w := ⟨hs.cur, grown_refl _ _⟩
theorem DV.step {w y z : World} {cb : Nat} {ad : Option Addr} {len cap : Nat} {f : Nat → Int} (h : DV w cb ad len cap y) (hs : Src z cb ad len cap f) (g : y.grownBy z (some cb)) : DV w cb ad len cap z := ⟨hs.cur, cu_trans h.gr g⟩
theorem DV.alloc {w y : World} {cb : Nat} {ad : Option Addr} {len cap : Nat} (h : DV w cb ad len cap y) (o : Obj) : DV w cb ad len cap (y.alloc o) :=
 ⟨h.cur.carry (Below.heap_alloc y o cb h.cur.lt), h.gr.os, h.gr.tape, h.gr.output, by have := h.gr.size; simp; omega, fun k hk hn => (Below.heap_alloc y o k (by have := h.gr.size; omega)).trans (h.gr.block k hk hn)⟩
theorem DV.set {w y : World} {cb : Nat} {ad : Option Addr} {len cap : Nat} {N i : Nat} (h : DV w cb ad len cap y) (hN : w.heap.size ≤ N) (hcb : cb < w.heap.size) (v : Value) : DV w cb ad len cap (y.setCell ⟨N, i, none⟩ v) :=
 ⟨h.cur.carry (Below.heap_setCell _ _ _ _ (by show cb ≠ N; omega)), h.gr.os, h.gr.tape, h.gr.output, by have := h.gr.size; simp; omega, fun k hk hn => (Below.heap_setCell _ _ _ _ (by show k ≠ N; omega)).trans (h.gr.block k hk hn)⟩
theorem DV.drew {w y : World} {cb : Nat} {ad : Option Addr} {len cap : Nat} (h : DV w cb ad len cap y) : DV w cb ad len cap y.drew := ⟨h.cur, h.gr.os, h.gr.tape, h.gr.output, h.gr.size, h.gr.block⟩
def V4 (r c b p : Int) : Prop := (-1 ≤ r ∧ r ≤ 100) ∧ (-1 ≤ c ∧ c ≤ 100) ∧ (-1 ≤ b ∧ b ≤ 100) ∧ (-1 ≤ p ∧ p ≤ 100)
def DrewV (w : World) (cb : Nat) (ad : Option Addr) (len cap : Nat) (f : Nat → Int) (e : Ending) (w' : World) : Prop := ∃ r c b p, e = .returned (.agg #[.int .i64 r, .int .i64 c, .int .i64 b, .int .i64 p]) ∧ V4 r c b p ∧ Src w' cb ad len cap f ∧ w.grownBy w' (some cb)
theorem join_regionD {P : Program} {reg : Code} {K : Act → World → Prop} {Q : Exit → Act → World → Prop} {l : List Value} {ds : List Deferred} {W : World} (R : List Value → List Value → World → Prop) (h1 : ∀ l' W', R l l' W' → K ⟨l'.toArray, ds⟩ W') (h2 : ∀ K2 : Act → World → Prop, Hid (∀ l' W', R l l' W' → K2 ⟨l'.toArray, ds⟩ W') → Code.wp P reg (Exit.then K2 Q) ⟨l.toArray, ds⟩ W) : Code.wp P reg (Exit.then K Q) ⟨l.toArray, ds⟩ W := h2 K h1
set_option maxHeartbeats 4000000 in
theorem drawR6 {cb : Nat} {ad : Option Addr} {len cap : Nat} {f : Nat → Int} (w : World) (hs : Src w cb ad len cap f) (hcb : cb < w.heap.size) :
  Calls Tryz.prog 186 #[.pointer (some ⟨cb, 0, none⟩)] w fun e w' => DrewV w cb ad len cap f e w' := by
 obtain ⟨R, hRe⟩ := mk_ w.heap.size;have hR : w.heap.size ≤ R := by omega
 have hRc : R ≠ cb := by omega
 obtain ⟨x0, hx0⟩ := mk_ (w.alloc (Obj.cells #[.int .i64 0, .int .i64 0, .int .i64 0, .int .i64 0] 103));have D0 : DV w cb ad len cap x0 := by rw [hx0]; exact (DV.start hs).alloc _
 have Q0 : VBoxD x0 R 0 0 0 0 := by rw [hx0, hRe]; exact VBoxD.new w _ _ _ _ _
 go_enter Tryz.func186, Tryz.ntmps186
 go_wp2_with fail
 go_at_call 76
 rw [← hx0, ← hRe];clear hx0 hRe;refine (drawBelow (D0.src hs) 4 (by omega) (by omega)).mono ?_;rintro e y1 ⟨r, rfl, r0, r1, s1, g1⟩;have D1 := D0.step s1 g1;have Q1 := Q0.grown g1 hRc;go_wp2_with fail
 go_at_call 76
 refine (drawBelow s1 4 (by omega) (by omega)).mono ?_;rintro e y2 ⟨p, rfl, p0, p1, s2, g2⟩;have D2 := D1.step s2 g2;have Q2 := Q1.grown g2 hRc;clear D0 Q0 D1 Q1 s1 g1 g2;obtain ⟨N, hNe⟩ := mk_ y2.heap.size;have hN : w.heap.size ≤ N := by have := D2.gr.size; omega
 have hNc : N ≠ cb := by omega
 have hRN : R ≠ N := by have := Q2.lt; omega
 obtain ⟨x3, hx3⟩ := mk_ (y2.alloc (Obj.cells #[.int .i64 (1 + r), .int .i64 0, .int .i64 0, .int .i64 p] 103));have D3 : DV w cb ad len cap x3 := by rw [hx3]; exact D2.alloc _
 have Q3 : VBoxD x3 R 0 0 0 0 := by rw [hx3]; exact Q2.alloc _
 have V3 : VBoxD x3 N (1 + r) 0 0 p := by rw [hx3, hNe]; exact VBoxD.new y2 _ _ _ _ _
 go_wp2
 rw [← hx3, ← hNe];clear hx3 hNe D2 Q2;refine join_regionD (fun l l' W' => ∃ (u : Int) (us : List Value), 0 ≤ u ∧ u < 3 ∧ us.length = 6 ∧ l' = l.take 10 ++ us ++ l.drop 16 ∧ VBoxD W' N (1 + r) 0 (1 + r + u) p ∧ VBoxD W' R 0 0 0 0 ∧ DV w cb ad len cap W') ?_ ?_;rotate_left
 ·
  intro K2 hT;refine wp_region_held (S := fun Y => (∃ z, VBoxD Y N (1 + r) 0 z p) ∧ VBoxD Y R 0 0 0 0 ∧ DV w cb ad len cap Y) (by kernel_rfl) ?_;change wpAnyH _ _ _ _ _ _ _ _ (World.drew _);have hb0 : (∃ z, VBoxD x3.drew N (1 + r) 0 z p) ∧ VBoxD x3.drew R 0 0 0 0 ∧ DV w cb ad len cap x3.drew := ⟨⟨_, V3⟩, Q3, D3.drew⟩;obtain ⟨y0, hy0⟩ := mk_ x3.drew;rw [← hy0] at hb0 ⊢;clear hy0;refine tw 0 10 (.pointer (some ⟨N, 0, none⟩)) ?_;refine tw 1 11 (.int .i64 (1 + r)) ?_ (hy := by intro Y hSw; obtain ⟨⟨_, ⟨C1, C2, C3, C4⟩, _⟩, _, _⟩ := hSw; go_simp);refine tw 2 12 (.pointer (some ⟨cb, 0, none⟩)) ?_;refine wpAnyH_all (rs := [3]) (by kernel_rfl) (by simp) ?_;intro i hi; obtain rfl : i = 3 := by simpa using hi
  refine wpOp_step rfl (fun K hK => ?_);rw [if_pos (by kernel_rfl)];go_simp
  go_at_call 76
  refine (drawBelow (hb0.2.2.src hs) 3 (by omega) (by omega)).mono ?_;rintro e y1 ⟨u, rfl, u0, u1, s3, g3⟩;have hwr : IntKind.i64.wrap (1 + r + u) = 1 + r + u := by rw [IntKind.wrap_i64]; omega
  obtain ⟨⟨z0, hz0⟩, hq0, hd0⟩ := hb0;have hb1 : (∃ z, VBoxD y1 N (1 + r) 0 z p) ∧ VBoxD y1 R 0 0 0 0 ∧ DV w cb ad len cap y1 := ⟨⟨_, hz0.grown g3 hNc⟩, hq0.grown g3 hRc, hd0.step s3 g3⟩;refine hK _ _ ⟨hb1, ?_⟩;clear hK K hi;refine tw 4 14 (.int .i64 (1 + r + u)) ?_;refine tw 5 15 (.pointer (some ⟨N, 2, none⟩)) ?_;refine wpAnyH_all (rs := [6]) (by kernel_rfl) (by simp) ?_;intro i hi; obtain rfl : i = 6 := by simpa using hi
  refine wpOp_step rfl (fun K hK => ?_);rw [if_pos (by kernel_rfl)];obtain ⟨⟨z1, hz1⟩, hq1, hd1⟩ := hb1;have c3 := hz1.1.2.2.1;have f3 := hz1.2 2;go_simp
  clear c3 f3;obtain ⟨x4, hx4⟩ := mk_ (y1.setCell ⟨N, 2, none⟩ (.int .i64 (1 + r + u)));have V4' : VBoxD x4 N (1 + r) 0 (1 + r + u) p := by rw [hx4]; exact hz1.set2 _
  have Q4 : VBoxD x4 R 0 0 0 0 := by rw [hx4]; exact hq1.other hRN
  have D4 : DV w cb ad len cap x4 := by rw [hx4]; exact hd1.set hN hcb _
  rw [← hx4];clear hx4;refine hK _ _ ⟨⟨⟨_, V4'⟩, Q4, D4⟩, ?_⟩;clear hK K hi;refine wpAnyH_done (by kernel_rfl) ?_ _;exact hT.out _ _ ⟨u, [.pointer (some ⟨N, 0, none⟩), .int .i64 (1 + r), .pointer (some ⟨cb, 0, none⟩), .int .i64 u, .int .i64 (1 + r + u), .pointer (some ⟨N, 2, none⟩)], u0, u1, rfl, by kernel_rfl, V4', Q4, D4⟩
 rintro l' x4 ⟨u, us, u0, u1, hul, rfl, V4', Q4, D4⟩;obtain ⟨u10, us, rfl⟩ : ∃ a b, us = a :: b := List.exists_cons_of_length_eq_add_one hul;replace hul := Nat.succ.inj hul;obtain ⟨u11, us, rfl⟩ : ∃ a b, us = a :: b := List.exists_cons_of_length_eq_add_one hul;replace hul := Nat.succ.inj hul;obtain ⟨u12, us, rfl⟩ : ∃ a b, us = a :: b := List.exists_cons_of_length_eq_add_one hul;replace hul := Nat.succ.inj hul;obtain ⟨u13, us, rfl⟩ : ∃ a b, us = a :: b := List.exists_cons_of_length_eq_add_one hul;replace hul := Nat.succ.inj hul;obtain ⟨u14, us, rfl⟩ : ∃ a b, us = a :: b := List.exists_cons_of_length_eq_add_one hul;replace hul := Nat.succ.inj hul;obtain ⟨u15, us, rfl⟩ : ∃ a b, us = a :: b := List.exists_cons_of_length_eq_add_one hul;replace hul := Nat.succ.inj hul;obtain rfl : us = [] := List.eq_nil_of_length_eq_zero hul;clear hul;simp only [List.take, List.drop, List.cons_append, List.nil_append];have VV := V4';obtain ⟨⟨c1, c2, c3, c4⟩, ff⟩ := V4';by_cases hu : 0 < u
 ·
  have hd : decide (1 + r < 1 + r + u) = true := by simp; omega
  go_wp2_with fail
  go_at_call 76
  refine (drawBelow (D4.src hs) 3 (by omega) (by omega)).mono ?_;rintro e y5 ⟨t, rfl, t0, t1, s5, g5⟩;have D5 := D4.step s5 g5;have Q5 := Q4.grown g5 hRc;have V5 := VV.grown g5 hNc;clear c1 c2 c3 c4 ff;obtain ⟨x6, hx6⟩ := mk_ (y5.setCell ⟨N, 1, none⟩ (.int .i64 (1 + t)));have D6 : DV w cb ad len cap x6 := by rw [hx6]; exact D5.set hN hcb _
  have Q6 : VBoxD x6 R 0 0 0 0 := by rw [hx6]; exact Q5.other hRN
  have V6 : VBoxD x6 N (1 + r) (1 + t) (1 + r + u) p := by rw [hx6]; exact V5.set1 _
  have V6' := V6;obtain ⟨⟨c1, c2, c3, c4⟩, ff⟩ := V5;have f1 := ff 1;have Q6' := Q6;obtain ⟨⟨d1, d2, d3, d4⟩, gg⟩ := Q6;have g0 := gg 0;have g1 := gg 1;have g2 := gg 2;have g3 := gg 3;obtain ⟨⟨h1, h2, h3, h4⟩, hh⟩ := V6;rw [hx6] at h1 h2 h3 h4 d1 d2 d3 d4 g0 g1 g2 g3;go_wp2
  rw [← hx6];obtain ⟨z, hz⟩ := mk_ ((((x6.setCell ⟨R, 0, none⟩ (.int .i64 (1 + r))).setCell ⟨R, 1, none⟩ (.int .i64 (1 + t))).setCell ⟨R, 2, none⟩ (.int .i64 (1 + r + u))).setCell ⟨R, 3, none⟩ (.int .i64 (p)));have Z := Q6'.put (1 + r) (1 + t) (1 + r + u) (p);rw [← hz] at Z ⊢;have DZ : DV w cb ad len cap z := by rw [hz]; exact (((D6.set hR hcb _).set hR hcb _).set hR hcb _).set hR hcb _
  clear hz;obtain ⟨⟨e1, e2, e3, e4⟩, _⟩ := Z;exact bodyPost_ret (v := .agg #[.int .i64 (1 + r), .int .i64 (1 + t), .int .i64 (1 + r + u), .int .i64 (p)]) (by simp only [results, Tryz.results186]; simp [go_sem, e1, e2, e3, e4]) rfl ⟨_, _, _, _, rfl, ⟨by omega, by omega, by omega, by omega⟩, DZ.src hs, DZ.gr⟩
 have hd : decide (1 + r < 1 + r + u) = false := by simp; omega
 have Q4' := Q4;obtain ⟨⟨d1, d2, d3, d4⟩, gg⟩ := Q4;have g0 := gg 0;have g1 := gg 1;have g2 := gg 2;have g3 := gg 3;go_wp2
 obtain ⟨z, hz⟩ := mk_ ((((x4.setCell ⟨R, 0, none⟩ (.int .i64 (1 + r))).setCell ⟨R, 1, none⟩ (.int .i64 (0))).setCell ⟨R, 2, none⟩ (.int .i64 (1 + r + u))).setCell ⟨R, 3, none⟩ (.int .i64 (p)));have Z := Q4'.put (1 + r) (0) (1 + r + u) (p);rw [← hz] at Z ⊢;have DZ : DV w cb ad len cap z := by rw [hz]; exact (((D4.set hR hcb _).set hR hcb _).set hR hcb _).set hR hcb _
 clear hz;obtain ⟨⟨e1, e2, e3, e4⟩, _⟩ := Z;exact bodyPost_ret (v := .agg #[.int .i64 (1 + r), .int .i64 (0), .int .i64 (1 + r + u), .int .i64 (p)]) (by simp only [results, Tryz.results186]; simp [go_sem, e1, e2, e3, e4]) rfl ⟨_, _, _, _, rfl, ⟨by omega, by omega, by omega, by omega⟩, DZ.src hs, DZ.gr⟩
set_option maxHeartbeats 4000000 in
theorem drawL6 {cb : Nat} {ad : Option Addr} {len cap : Nat} {f : Nat → Int} (w : World) (hs : Src w cb ad len cap f) (hcb : cb < w.heap.size) :
  Calls Tryz.prog 180 #[.pointer (some ⟨cb, 0, none⟩)] w fun e w' => DrewV w cb ad len cap f e w' := by
 obtain ⟨R, hRe⟩ := mk_ w.heap.size;have hR : w.heap.size ≤ R := by omega
 have hRc : R ≠ cb := by omega
 obtain ⟨x0, hx0⟩ := mk_ (w.alloc (Obj.cells #[.int .i64 0, .int .i64 0, .int .i64 0, .int .i64 0] 103));have D0 : DV w cb ad len cap x0 := by rw [hx0]; exact (DV.start hs).alloc _
 have Q0 : VBoxD x0 R 0 0 0 0 := by rw [hx0, hRe]; exact VBoxD.new w _ _ _ _ _
 have h0 : cb < x0.heap.size := by have := D0.gr.size; omega
 go_enter Tryz.func180, Tryz.ntmps180
 go_wp2_with fail
 go_at_call 186
 rw [← hx0, ← hRe];clear hx0 hRe;refine (drawR6 x0 (D0.src hs) h0).mono ?_;rintro e y1 ⟨r, c, b, p, rfl, ⟨hr, hc, hb, hp⟩, s1, g1⟩;have D1 := D0.step s1 g1;have Q1 := Q0.grown g1 hRc;clear D0 Q0 s1 g1 h0;obtain ⟨N, hNe⟩ := mk_ y1.heap.size;have hN : w.heap.size ≤ N := by have := D1.gr.size; omega
 have hNc : N ≠ cb := by omega
 have hRN : R ≠ N := by have := Q1.lt; omega
 obtain ⟨x2, hx2⟩ := mk_ (y1.alloc (Obj.cells #[.int .i64 r, .int .i64 c, .int .i64 b, .int .i64 p] 103));have D2 : DV w cb ad len cap x2 := by rw [hx2]; exact D1.alloc _
 have Q2 : VBoxD x2 R 0 0 0 0 := by rw [hx2]; exact Q1.alloc _
 have V2 : VBoxD x2 N r c b p := by rw [hx2, hNe]; exact VBoxD.new y1 _ _ _ _ _
 go_wp2_with fail
 go_at_call 76
 rw [← hx2, ← hNe];clear hx2 hNe D1 Q1;refine (drawBelow (D2.src hs) 10 (by omega) (by omega)).mono ?_;rintro e y3 ⟨k, rfl, k0, k1, s3, g3⟩;have D3 := D2.step s3 g3;have Q3 := Q2.grown g3 hRc;have V3 := V2.grown g3 hNc;clear D2 Q2 V2 s3 g3;obtain ⟨B, hBe⟩ := mk_ y3.heap.size;have hBc : B ≠ cb := by have := D3.gr.size; omega
 by_cases hk0 : k = 0
 ·
  subst hk0;obtain ⟨x4, hx4⟩ := mk_ (y3.alloc (Obj.cells #[.int .i64 0, .int .i64 9, .int .i64 10] 3));have D4 : DV w cb ad len cap x4 := by rw [hx4]; exact D3.alloc _
  have Q4 : VBoxD x4 R 0 0 0 0 := by rw [hx4]; exact Q3.alloc _
  have V4' : VBoxD x4 N r c b p := by rw [hx4]; exact V3.alloc _
  have hg : ∀ i, i < 3 → ∃ y, x4.cell? ⟨B, i, none⟩ = some (.int .i64 y) ∧ (-1 ≤ y ∧ y ≤ 100) := by
   intro i hi;rw [hx4, hBe];obtain rfl | rfl | rfl : i = 0 ∨ i = 1 ∨ i = 2 := by omega
   ·
    exact ⟨_, lit_at y3 _ _ 0 rfl, by omega⟩
   ·
    exact ⟨_, lit_at y3 _ _ 1 rfl, by omega⟩
   exact ⟨_, lit_at y3 _ _ 2 rfl, by omega⟩
  go_wp2_with fail
  go_at_call 66
  rw [← hx4, ← hBe];clear hx4 hBe D3 Q3 V3;refine (pickIntP (D4.src hs) (fun y => -1 ≤ y ∧ y ≤ 100) B 3 3 hBc (by omega) (by omega) hg).mono ?_;rintro e y5 ⟨v, rfl, hv, s5, g5⟩;have D5 := D4.step s5 g5;have Q5 := Q4.grown g5 hRc;have V5 := V4'.grown g5 hNc;clear hg D4 Q4 V4' s5 g5;obtain ⟨x6, hx6⟩ := mk_ (y5.setCell ⟨N, 0, none⟩ (.int .i64 v));have D6 : DV w cb ad len cap x6 := by rw [hx6]; exact D5.set hN hcb _
  have Q6 : VBoxD x6 R 0 0 0 0 := by rw [hx6]; exact Q5.other hRN
  have V6 : VBoxD x6 N v c b p := by rw [hx6]; exact V5.set0 _
  obtain ⟨⟨c1, c2, c3, c4⟩, ff⟩ := V5;have f1 := ff 0;have Q6' := Q6;obtain ⟨⟨d1, d2, d3, d4⟩, gg⟩ := Q6;have g0 := gg 0;have g1 := gg 1;have g2 := gg 2;have g3 := gg 3;obtain ⟨⟨h1, h2, h3, h4⟩, hh⟩ := V6;rw [hx6] at h1 h2 h3 h4 d1 d2 d3 d4 g0 g1 g2 g3;go_wp2
  rw [← hx6];obtain ⟨z, hz⟩ := mk_ ((((x6.setCell ⟨R, 0, none⟩ (.int .i64 (v))).setCell ⟨R, 1, none⟩ (.int .i64 (c))).setCell ⟨R, 2, none⟩ (.int .i64 (b))).setCell ⟨R, 3, none⟩ (.int .i64 (p)));have Z := Q6'.put (v) (c) (b) (p);rw [← hz] at Z ⊢;have DZ : DV w cb ad len cap z := by rw [hz]; exact (((D6.set hR hcb _).set hR hcb _).set hR hcb _).set hR hcb _
  clear hz;obtain ⟨⟨e1, e2, e3, e4⟩, _⟩ := Z;exact bodyPost_ret (v := .agg #[.int .i64 (v), .int .i64 (c), .int .i64 (b), .int .i64 (p)]) (by simp only [results, Tryz.results180]; simp [go_sem, e1, e2, e3, e4]) rfl ⟨_, _, _, _, rfl, ⟨by omega, by omega, by omega, by omega⟩, DZ.src hs, DZ.gr⟩
 have e0 : (k == 0) = false := by simp; omega
 by_cases hk1 : k = 1
 ·
  subst hk1;obtain ⟨x4, hx4⟩ := mk_ (y3.alloc (Obj.cells #[.int .i64 (-1), .int .i64 0, .int .i64 20, .int .i64 21] 3));have D4 : DV w cb ad len cap x4 := by rw [hx4]; exact D3.alloc _
  have Q4 : VBoxD x4 R 0 0 0 0 := by rw [hx4]; exact Q3.alloc _
  have V4' : VBoxD x4 N r c b p := by rw [hx4]; exact V3.alloc _
  have hg : ∀ i, i < 4 → ∃ y, x4.cell? ⟨B, i, none⟩ = some (.int .i64 y) ∧ (-1 ≤ y ∧ y ≤ 100) := by
   intro i hi;rw [hx4, hBe];obtain rfl | rfl | rfl | rfl : i = 0 ∨ i = 1 ∨ i = 2 ∨ i = 3 := by omega
   ·
    exact ⟨_, lit_at y3 _ _ 0 rfl, by omega⟩
   ·
    exact ⟨_, lit_at y3 _ _ 1 rfl, by omega⟩
   ·
    exact ⟨_, lit_at y3 _ _ 2 rfl, by omega⟩
   exact ⟨_, lit_at y3 _ _ 3 rfl, by omega⟩
  go_wp2_with fail
  go_at_call 66
  rw [← hx4, ← hBe];clear hx4 hBe D3 Q3 V3;refine (pickIntP (D4.src hs) (fun y => -1 ≤ y ∧ y ≤ 100) B 4 4 hBc (by omega) (by omega) hg).mono ?_;rintro e y5 ⟨v, rfl, hv, s5, g5⟩;have D5 := D4.step s5 g5;have Q5 := Q4.grown g5 hRc;have V5 := V4'.grown g5 hNc;clear hg D4 Q4 V4' s5 g5;obtain ⟨x6, hx6⟩ := mk_ (y5.setCell ⟨N, 1, none⟩ (.int .i64 v));have D6 : DV w cb ad len cap x6 := by rw [hx6]; exact D5.set hN hcb _
  have Q6 : VBoxD x6 R 0 0 0 0 := by rw [hx6]; exact Q5.other hRN
  have V6 : VBoxD x6 N r v b p := by rw [hx6]; exact V5.set1 _
  obtain ⟨⟨c1, c2, c3, c4⟩, ff⟩ := V5;have f1 := ff 1;have Q6' := Q6;obtain ⟨⟨d1, d2, d3, d4⟩, gg⟩ := Q6;have g0 := gg 0;have g1 := gg 1;have g2 := gg 2;have g3 := gg 3;obtain ⟨⟨h1, h2, h3, h4⟩, hh⟩ := V6;rw [hx6] at h1 h2 h3 h4 d1 d2 d3 d4 g0 g1 g2 g3;go_wp2
  rw [← hx6];obtain ⟨z, hz⟩ := mk_ ((((x6.setCell ⟨R, 0, none⟩ (.int .i64 (r))).setCell ⟨R, 1, none⟩ (.int .i64 (v))).setCell ⟨R, 2, none⟩ (.int .i64 (b))).setCell ⟨R, 3, none⟩ (.int .i64 (p)));have Z := Q6'.put (r) (v) (b) (p);rw [← hz] at Z ⊢;have DZ : DV w cb ad len cap z := by rw [hz]; exact (((D6.set hR hcb _).set hR hcb _).set hR hcb _).set hR hcb _
  clear hz;obtain ⟨⟨e1, e2, e3, e4⟩, _⟩ := Z;exact bodyPost_ret (v := .agg #[.int .i64 (r), .int .i64 (v), .int .i64 (b), .int .i64 (p)]) (by simp only [results, Tryz.results180]; simp [go_sem, e1, e2, e3, e4]) rfl ⟨_, _, _, _, rfl, ⟨by omega, by omega, by omega, by omega⟩, DZ.src hs, DZ.gr⟩
 have e1 : (k == 1) = false := by simp; omega
 by_cases hk2 : k = 2
 ·
  subst hk2;obtain ⟨x4, hx4⟩ := mk_ (y3.alloc (Obj.cells #[.int .i64 0, .int .i64 9, .int .i64 10] 3));have D4 : DV w cb ad len cap x4 := by rw [hx4]; exact D3.alloc _
  have Q4 : VBoxD x4 R 0 0 0 0 := by rw [hx4]; exact Q3.alloc _
  have V4' : VBoxD x4 N r c b p := by rw [hx4]; exact V3.alloc _
  have hg : ∀ i, i < 3 → ∃ y, x4.cell? ⟨B, i, none⟩ = some (.int .i64 y) ∧ (-1 ≤ y ∧ y ≤ 100) := by
   intro i hi;rw [hx4, hBe];obtain rfl | rfl | rfl : i = 0 ∨ i = 1 ∨ i = 2 := by omega
   ·
    exact ⟨_, lit_at y3 _ _ 0 rfl, by omega⟩
   ·
    exact ⟨_, lit_at y3 _ _ 1 rfl, by omega⟩
   exact ⟨_, lit_at y3 _ _ 2 rfl, by omega⟩
  go_wp2_with fail
  go_at_call 66
  rw [← hx4, ← hBe];clear hx4 hBe D3 Q3 V3;refine (pickIntP (D4.src hs) (fun y => -1 ≤ y ∧ y ≤ 100) B 3 3 hBc (by omega) (by omega) hg).mono ?_;rintro e y5 ⟨v, rfl, hv, s5, g5⟩;have D5 := D4.step s5 g5;have Q5 := Q4.grown g5 hRc;have V5 := V4'.grown g5 hNc;clear hg D4 Q4 V4' s5 g5;obtain ⟨x6, hx6⟩ := mk_ (y5.setCell ⟨N, 2, none⟩ (.int .i64 v));have D6 : DV w cb ad len cap x6 := by rw [hx6]; exact D5.set hN hcb _
  have Q6 : VBoxD x6 R 0 0 0 0 := by rw [hx6]; exact Q5.other hRN
  have V6 : VBoxD x6 N r c v p := by rw [hx6]; exact V5.set2 _
  obtain ⟨⟨c1, c2, c3, c4⟩, ff⟩ := V5;have f1 := ff 2;have Q6' := Q6;obtain ⟨⟨d1, d2, d3, d4⟩, gg⟩ := Q6;have g0 := gg 0;have g1 := gg 1;have g2 := gg 2;have g3 := gg 3;obtain ⟨⟨h1, h2, h3, h4⟩, hh⟩ := V6;rw [hx6] at h1 h2 h3 h4 d1 d2 d3 d4 g0 g1 g2 g3;go_wp2
  rw [← hx6];obtain ⟨z, hz⟩ := mk_ ((((x6.setCell ⟨R, 0, none⟩ (.int .i64 (r))).setCell ⟨R, 1, none⟩ (.int .i64 (c))).setCell ⟨R, 2, none⟩ (.int .i64 (v))).setCell ⟨R, 3, none⟩ (.int .i64 (p)));have Z := Q6'.put (r) (c) (v) (p);rw [← hz] at Z ⊢;have DZ : DV w cb ad len cap z := by rw [hz]; exact (((D6.set hR hcb _).set hR hcb _).set hR hcb _).set hR hcb _
  clear hz;obtain ⟨⟨e1, e2, e3, e4⟩, _⟩ := Z;exact bodyPost_ret (v := .agg #[.int .i64 (r), .int .i64 (c), .int .i64 (v), .int .i64 (p)]) (by simp only [results, Tryz.results180]; simp [go_sem, e1, e2, e3, e4]) rfl ⟨_, _, _, _, rfl, ⟨by omega, by omega, by omega, by omega⟩, DZ.src hs, DZ.gr⟩
 have e2 : (k == 2) = false := by simp; omega
 by_cases hk3 : k = 3
 ·
  subst hk3;obtain ⟨x4, hx4⟩ := mk_ (y3.alloc (Obj.cells #[.int .i64 (-1), .int .i64 3, .int .i64 4] 3));have D4 : DV w cb ad len cap x4 := by rw [hx4]; exact D3.alloc _
  have Q4 : VBoxD x4 R 0 0 0 0 := by rw [hx4]; exact Q3.alloc _
  have V4' : VBoxD x4 N r c b p := by rw [hx4]; exact V3.alloc _
  have hg : ∀ i, i < 3 → ∃ y, x4.cell? ⟨B, i, none⟩ = some (.int .i64 y) ∧ (-1 ≤ y ∧ y ≤ 100) := by
   intro i hi;rw [hx4, hBe];obtain rfl | rfl | rfl : i = 0 ∨ i = 1 ∨ i = 2 := by omega
   ·
    exact ⟨_, lit_at y3 _ _ 0 rfl, by omega⟩
   ·
    exact ⟨_, lit_at y3 _ _ 1 rfl, by omega⟩
   exact ⟨_, lit_at y3 _ _ 2 rfl, by omega⟩
  go_wp2_with fail
  go_at_call 66
  rw [← hx4, ← hBe];clear hx4 hBe D3 Q3 V3;refine (pickIntP (D4.src hs) (fun y => -1 ≤ y ∧ y ≤ 100) B 3 3 hBc (by omega) (by omega) hg).mono ?_;rintro e y5 ⟨v, rfl, hv, s5, g5⟩;have D5 := D4.step s5 g5;have Q5 := Q4.grown g5 hRc;have V5 := V4'.grown g5 hNc;clear hg D4 Q4 V4' s5 g5;obtain ⟨x6, hx6⟩ := mk_ (y5.setCell ⟨N, 3, none⟩ (.int .i64 v));have D6 : DV w cb ad len cap x6 := by rw [hx6]; exact D5.set hN hcb _
  have Q6 : VBoxD x6 R 0 0 0 0 := by rw [hx6]; exact Q5.other hRN
  have V6 : VBoxD x6 N r c b v := by rw [hx6]; exact V5.set3 _
  obtain ⟨⟨c1, c2, c3, c4⟩, ff⟩ := V5;have f1 := ff 3;have Q6' := Q6;obtain ⟨⟨d1, d2, d3, d4⟩, gg⟩ := Q6;have g0 := gg 0;have g1 := gg 1;have g2 := gg 2;have g3 := gg 3;obtain ⟨⟨h1, h2, h3, h4⟩, hh⟩ := V6;rw [hx6] at h1 h2 h3 h4 d1 d2 d3 d4 g0 g1 g2 g3;go_wp2
  rw [← hx6];obtain ⟨z, hz⟩ := mk_ ((((x6.setCell ⟨R, 0, none⟩ (.int .i64 (r))).setCell ⟨R, 1, none⟩ (.int .i64 (c))).setCell ⟨R, 2, none⟩ (.int .i64 (b))).setCell ⟨R, 3, none⟩ (.int .i64 (v)));have Z := Q6'.put (r) (c) (b) (v);rw [← hz] at Z ⊢;have DZ : DV w cb ad len cap z := by rw [hz]; exact (((D6.set hR hcb _).set hR hcb _).set hR hcb _).set hR hcb _
  clear hz;obtain ⟨⟨e1, e2, e3, e4⟩, _⟩ := Z;exact bodyPost_ret (v := .agg #[.int .i64 (r), .int .i64 (c), .int .i64 (b), .int .i64 (v)]) (by simp only [results, Tryz.results180]; simp [go_sem, e1, e2, e3, e4]) rfl ⟨_, _, _, _, rfl, ⟨by omega, by omega, by omega, by omega⟩, DZ.src hs, DZ.gr⟩
 have e3 : (k == 3) = false := by simp; omega
 clear hBc;have Q3' := Q3;obtain ⟨⟨d1, d2, d3, d4⟩, gg⟩ := Q3;have g0 := gg 0;have g1 := gg 1;have g2 := gg 2;have g3 := gg 3;obtain ⟨⟨h1, h2, h3, h4⟩, hh⟩ := V3;clear hk0 hk1 hk2 hk3;go_wp2
 obtain ⟨z, hz⟩ := mk_ ((((y3.setCell ⟨R, 0, none⟩ (.int .i64 (r))).setCell ⟨R, 1, none⟩ (.int .i64 (c))).setCell ⟨R, 2, none⟩ (.int .i64 (b))).setCell ⟨R, 3, none⟩ (.int .i64 (p)));have Z := Q3'.put (r) (c) (b) (p);rw [← hz] at Z ⊢;have DZ : DV w cb ad len cap z := by rw [hz]; exact (((D3.set hR hcb _).set hR hcb _).set hR hcb _).set hR hcb _
 clear hz;obtain ⟨⟨e1, e2, e3, e4⟩, _⟩ := Z;exact bodyPost_ret (v := .agg #[.int .i64 (r), .int .i64 (c), .int .i64 (b), .int .i64 (p)]) (by simp only [results, Tryz.results180]; simp [go_sem, e1, e2, e3, e4]) rfl ⟨_, _, _, _, rfl, ⟨by omega, by omega, by omega, by omega⟩, DZ.src hs, DZ.gr⟩
theorem set10 {w y : World} {cb : Nat} {ad : Option Addr} {len cap N : Nat} (h : DV w cb ad len cap y) (hN : w.heap.size ≤ N) (hcb : cb < w.heap.size) (v0 v1 v2 v3 v4 v5 v6 v7 v8 v9 : Value) : DV w cb ad len cap ((((((((((y.setCell ⟨N, 0, none⟩ v0).setCell ⟨N, 1, none⟩ v1).setCell ⟨N, 2, none⟩ v2).setCell ⟨N, 3, none⟩ v3).setCell ⟨N, 4, none⟩ v4).setCell ⟨N, 5, none⟩ v5).setCell ⟨N, 6, none⟩ v6).setCell ⟨N, 7, none⟩ v7).setCell ⟨N, 8, none⟩ v8).setCell ⟨N, 9, none⟩ v9) :=
 ((((((((((h.set hN hcb _).set hN hcb _).set hN hcb _).set hN hcb _).set hN hcb _).set hN hcb _).set hN hcb _).set hN hcb _).set hN hcb _).set hN hcb _)
end Go.Proofs.YtnpiljegdiconaaGreat
namespace Go.Proofs.YtnpiljegdiconaaGreat
open Go.ChangeShapes Go.WideShapes Go.ChangeAt Go.RowKit
open Go.ChangeMaps (open_string shut_string)
set_option linter.unusedVariables false
set_option maxRecDepth 100000
end Go.Proofs.YtnpiljegdiconaaGreat
namespace Go.Proofs
abbrev Tryz.muLink : Go.Conc.Locks.MuLink := { lock := 128, unlock := 129, ilock := 176, iunlock := 177, lockSlow := 206, unlockSlow := 209, disable := 202, enable := 204, acquire := 205, relMerge := 207, cas32 := 203, add32 := 208, tMutex := 155, tIMutex := 153, tPMutex := 213, tPIMutex := 241, tPI32 := 243, tUP := 245, tNoCopy := 150, tU32 := 151 }
theorem Tryz.muLib : Go.Conc.Locks.MuLib Tryz.prog Tryz.muLink :=
 ⟨Tryz.func128, Tryz.func129, Tryz.func176, Tryz.func177, Tryz.func202, Tryz.func204, Tryz.func205, Tryz.func207, Tryz.func203, Tryz.func208, Tryz.underlying153, Tryz.runUnderlying153, Tryz.sizeOf153, Tryz.isAgg153, Tryz.zeroValue153, Tryz.underlying155, Tryz.runUnderlying155, Tryz.sizeOf155, Tryz.isAgg155, Tryz.zeroValue155, Tryz.underlying213, Tryz.runUnderlying213, Tryz.sizeOf213, Tryz.isAgg213, Tryz.zeroValue213, Tryz.underlying241, Tryz.runUnderlying241, Tryz.sizeOf241, Tryz.isAgg241, Tryz.zeroValue241, Tryz.underlying243, Tryz.runUnderlying243, Tryz.sizeOf243, Tryz.isAgg243, Tryz.zeroValue243, Tryz.underlying245, Tryz.runUnderlying245, Tryz.sizeOf245, Tryz.isAgg245, Tryz.zeroValue245, Tryz.underlying150, Tryz.runUnderlying150, Tryz.sizeOf150, Tryz.isAgg150, Tryz.zeroValue150, Tryz.underlying21, Tryz.runUnderlying21, Tryz.sizeOf21, Tryz.isAgg21, Tryz.zeroValue21, (by kernel_rfl)⟩
end Go.Proofs
namespace Go.Proofs.YtnpiljegdiconaaGreat
open Go.ChangeShapes Go.WideShapes Go.ChangeAt Go.RowKit
open Go.ChangeMaps (open_string shut_string)
set_option linter.unusedVariables false
set_option maxRecDepth 100000
theorem pe_Mg4 {w : World} {q i j : Nat} {u v : Value} (h : w.cell? ⟨q, j, none⟩ = some u) (hij : i ≠ j := by decide) : (w.setCell ⟨q, i, none⟩ v).cell? ⟨q, j, none⟩ = some u := (pset_else hij).trans h
theorem ps_Mg4 {w : World} {q i : Nat} {u v : Value} (h : w.cell? ⟨q, i, none⟩ = some u) : (w.setCell ⟨q, i, none⟩ v).cell? ⟨q, i, none⟩ = some v := pset_same h
theorem setCells_put (g : Nat) : ∀ (vs : List Value) (o : Nat) (w : World), w.setCells g o vs = putAll w g o vs
 | [], _, _ => rfl
 | v :: vs, o, w => setCells_put g vs (o + 1) (w.setCell ⟨g, o, none⟩ v)
structure Turned (q : Nat) (o : Option Nat) (w w' : World) : Prop where
 os : w'.os = w.os
 tape : w'.tape = w.tape
 output : w'.output = w.output
 size : w.heap.size ≤ w'.heap.size
 block : ∀ k, k < w.heap.size → k ≠ q → o ≠ some k → w'.heap[k]? = w.heap[k]?
theorem Turned.below {q : Nat} {o : Option Nat} {w w' : World} (h : Turned q o w w') {B : Nat} (hB : B ≤ w.heap.size) (h1 : B ≤ q) (h2 : ∀ g, o = some g → B ≤ g) : Below B w w' :=
 ⟨h.os, h.tape, h.output, h.size, fun k hk => h.block k (by omega) (by omega) (fun e => by have := h2 k e; omega)⟩
theorem Turned.refl (q : Nat) (o : Option Nat) (w : World) : Turned q o w w := ⟨rfl, rfl, rfl, Nat.le_refl _, fun _ _ _ _ => rfl⟩
theorem Turned.set {q : Nat} {o : Option Nat} {w w' : World} (h : Turned q o w w') (i : Nat) (v : Value) : Turned q o w (w'.setCell ⟨q, i, none⟩ v) :=
 ⟨h.os, h.tape, h.output, by simpa using h.size, fun k hk h1 h2 => (Below.heap_setCell _ _ _ _ h1).trans (h.block k hk h1 h2)⟩
theorem Turned.put {q g : Nat} {w : World} (o : Nat) (vs : List Value) : Turned q (some g) w (putAll w g o vs) := by
 have hb := below_putAll (B := 0) (g := g) (a := w) (Nat.zero_le _) vs o (Below.refl 0 w);exact ⟨hb.os, hb.tape, hb.output, hb.size, fun k _ _ h2 => heap_putAll vs w o k (fun e => h2 (by rw [e]))⟩
theorem zeroIk (w : World) : (zeroValue 105).run Tryz.prog w = .ok (.agg #[.int .i64 0, .int .i64 0, .int .i64 0, .int .i64 0, .int .i64 0, .int .i64 0, .int .i64 0, .bool false]) w := by kernel_rfl
theorem clearIk (w : World) (ty : TypeId) (g n c : Nat) (hn : 0 < n) (hc : ∀ j, j < n * 8 → (w.cell? ⟨g, j, none⟩).isSome = true) (hf : ∀ j, w.frozen? ⟨g, j, none⟩ = false) :
  ∃ vs, (Builtin.clear_ #[26] ty #[.slice (some ⟨g, 0, none⟩) n c]).run Tryz.prog w = .ok (.tuple #[]) (putAll w g 0 vs) := by
 obtain ⟨z, hz⟩ : ∃ z, z = Value.agg #[.int .i64 0, .int .i64 0, .int .i64 0, .int .i64 0, .int .i64 0, .int .i64 0, .int .i64 0, .bool false] := ⟨_, rfl⟩;have h8 : z.cells.size = 8 := by rw [hz]; rfl
 have hl : (Builtin.zeroCells z.cells n).toList.length = n * 8 := by simp [Builtin.zeroCells, h8]
 have h1 : ∀ v ∈ (Builtin.zeroCells z.cells n).toList, v.oneCell' = true := by
  intro v hv;simp only [Builtin.zeroCells, h8, Array.toList_map, List.mem_map] at hv;obtain ⟨i, _, rfl⟩ := hv;have : i % 8 = 0 ∨ i % 8 = 1 ∨ i % 8 = 2 ∨ i % 8 = 3 ∨ i % 8 = 4 ∨ i % 8 = 5 ∨ i % 8 = 6 ∨ i % 8 = 7 := by omega
  rw [hz];rcases this with e | e | e | e | e | e | e | e <;> rw [e] <;> rfl
 have hst := run_storeCells_cells (P := Tryz.prog) g 0 (Builtin.zeroCells z.cells n).toList 0 w (by rw [hl]; simpa using hc) (fun j _ => by simpa using hf j) h1;simp only [Nat.add_zero] at hst;rw [setCells_put] at hst;refine ⟨(Builtin.zeroCells z.cells n).toList, ?_⟩;have hzv : ∀ w : World, (zeroValue 105).run Tryz.prog w = .ok z w := fun w => by rw [hz]; exact zeroIk w
 obtain ⟨k, rfl⟩ : ∃ k, n = k + 1 := ⟨n - 1, by omega⟩;simp [Builtin.clear_, run_underlying Tryz.underlying26, hzv, hst]
set_option maxHeartbeats 2000000 in
theorem emptyI (m : Mi) (q base : Nat) (ad : Option Addr) (cap : Nat) (w : World) (M : MgBox w q m (.slice ad m.lg.length cap)) (O : FOwn ikEnc 8 105 base w (.slice ad m.lg.length cap) m.lg) (hq : ∀ g, (Value.slice ad m.lg.length cap).ownBlock = some g → g ≠ q) :
  Calls Tryz.prog 201 #[.pointer (some ⟨q, 0, none⟩)] w fun e w' => e = .returned (.tuple #[]) ∧ MgBox w' q m (.slice ad 0 cap) ∧ Turned q (Value.slice ad m.lg.length cap).ownBlock w w' := by
 have hcl : ∃ w1, (∀ ty, (Builtin.clear_ #[26] ty #[.slice ad m.lg.length cap]).run Tryz.prog w = .ok (.tuple #[]) w1) ∧ MgBox w1 q m (.slice ad m.lg.length cap) ∧ Turned q (Value.slice ad m.lg.length cap).ownBlock w w1 := by
  cases ad with
  | none =>
   refine ⟨w, fun ty => ?_, M, Turned.refl _ _ _⟩;simp [Builtin.clear_, run_underlying Tryz.underlying26]
  | some a =>
   by_cases h0 : m.lg.length = 0
   ·
    refine ⟨w, fun ty => ?_, M, Turned.refl _ _ _⟩;rw [h0];simp [Builtin.clear_, run_underlying Tryz.underlying26]
   have ha : ∃ g, a = ⟨g, 0, none⟩ := by
    rcases O.2 with ⟨e, _⟩ | ⟨g, c, cur, e, _⟩
    ·
     cases e
    simp only [Value.slice.injEq, Option.some.injEq] at e;exact ⟨g, e.1⟩
   obtain ⟨g, rfl⟩ := ha;have hc : ∀ j, j < m.lg.length * 8 → (w.cell? ⟨g, j, none⟩).isSome = true := fun j hj => by
    rw [World.ownsRow.cellAt O j hj];have hx : (fcells ikEnc m.lg).length = m.lg.length * 8 := fcells_len ikEnc_len _;rw [List.getElem?_eq_getElem (by omega)];rfl
   have hne : q ≠ g := fun e => hq g rfl e.symm
   obtain ⟨vs, hvs⟩ := clearIk w 0 g m.lg.length cap (by omega) hc (fun j => O.frozen j);refine ⟨putAll w g 0 vs, fun ty => hvs, M.keep (heap_putAll vs w 0 q hne), Turned.put 0 vs⟩
 obtain ⟨w1, hcl, M1, T1⟩ := hcl;have M2 := M1.log (.slice ad 0 cap);have T2 := T1.set 0 (.slice ad 0 cap);have c0 := M.c0;have d0 := M1.c0;have f0 := M1.fr 0;clear M M1 T1 O hq;cases ad with
 | none =>
  go_enter Tryz.func201, Tryz.ntmps201
  go_wp2_with (simp only [hcl])
  go_end0
  exact ⟨rfl, M2, T2⟩
 | some a =>
  go_enter Tryz.func201, Tryz.ntmps201
  go_wp2_with (simp only [hcl])
  go_end0
  exact ⟨rfl, M2, T2⟩
theorem MgBox.fallen {w : World} {q : Nat} {m : Mi} {v : Value} (h : MgBox w q m v) : MgBox ((((((w.setCell ⟨q, 1, none⟩ (.bool false)).setCell ⟨q, 2, none⟩ (.int .i64 m.li)).setCell ⟨q, 3, none⟩ (.int .i64 0)).setCell ⟨q, 4, none⟩ (.int .i64 0)).setCell ⟨q, 5, none⟩ (.int .i64 0)).setCell ⟨q, 6, none⟩ (.int .i64 0)) q ⟨false, m.li, 0, [], 0, 0, 0⟩ v := by
 obtain ⟨h0, h1, h2, h3, h4, h5, h6, hf⟩ := h;refine ⟨pe_Mg4 (pe_Mg4 (pe_Mg4 (pe_Mg4 (pe_Mg4 (pe_Mg4 h0))))), pe_Mg4 (pe_Mg4 (pe_Mg4 (pe_Mg4 (pe_Mg4 (ps_Mg4 h1))))), pe_Mg4 (pe_Mg4 (pe_Mg4 (pe_Mg4 (ps_Mg4 (pe_Mg4 h2))))), pe_Mg4 (pe_Mg4 (pe_Mg4 (ps_Mg4 (pe_Mg4 (pe_Mg4 h3))))), pe_Mg4 (pe_Mg4 (ps_Mg4 (pe_Mg4 (pe_Mg4 (pe_Mg4 h4))))), pe_Mg4 (ps_Mg4 (pe_Mg4 (pe_Mg4 (pe_Mg4 (pe_Mg4 h5))))), ps_Mg4 (pe_Mg4 (pe_Mg4 (pe_Mg4 (pe_Mg4 (pe_Mg4 h6))))), fun i => ?_⟩;rw [World.frozen?_setCell, World.frozen?_setCell, World.frozen?_setCell, World.frozen?_setCell, World.frozen?_setCell, World.frozen?_setCell];exact hf i
set_option maxHeartbeats 2000000 in
theorem fallI (m : Mi) (q base : Nat) (ad : Option Addr) (cap : Nat) (w : World) (M : MgBox w q m (.slice ad m.lg.length cap)) (O : FOwn ikEnc 8 105 base w (.slice ad m.lg.length cap) m.lg) (hq : ∀ g, (Value.slice ad m.lg.length cap).ownBlock = some g → g ≠ q) :
  Calls Tryz.prog 175 #[.pointer (some ⟨q, 0, none⟩)] w fun e w' => e = .returned (.tuple #[]) ∧ MgBox w' q ⟨false, m.li, 0, [], 0, 0, 0⟩ (.slice ad 0 cap) ∧ Turned q (Value.slice ad m.lg.length cap).ownBlock w w' := by
 go_enter Tryz.func175, Tryz.ntmps175
 go_wp2_with fail
 go_at_call 201
 refine (emptyI m q base ad cap w M O hq).mono ?_;rintro e w1 ⟨rfl, M1, T1⟩;have M2 := M1.fallen;have T3 : Turned q (Value.slice ad m.lg.length cap).ownBlock w ((((((w1.setCell ⟨q, 1, none⟩ (.bool false)).setCell ⟨q, 2, none⟩ (.int .i64 m.li)).setCell ⟨q, 3, none⟩ (.int .i64 0)).setCell ⟨q, 4, none⟩ (.int .i64 0)).setCell ⟨q, 5, none⟩ (.int .i64 0)).setCell ⟨q, 6, none⟩ (.int .i64 0)) := ((((((T1.set 1 _).set 2 _).set 3 _).set 4 _).set 5 _).set 6 _);clear T1 O hq M;obtain ⟨c0, c1, c2, c3, c4, c5, c6, fr⟩ := M1;have f1 := fr 1;have f2 := fr 2;have f3 := fr 3;have f4 := fr 4;have f5 := fr 5;have f6 := fr 6;clear fr;go_wp2
 go_end0
 exact ⟨rfl, M2, T3⟩
open Go.MuLone
structure GBox (w : World) (q : Nat) (l : Int) (r : Rg) : Prop where
 c0 : w.cell? ⟨q, 0, none⟩ = some (.int .i64 r.ep)
 c1 : w.cell? ⟨q, 1, none⟩ = some (.int .i32 l)
 c2 : w.cell? ⟨q, 2, none⟩ = some (.int .u32 0)
 c3 : w.cell? ⟨q, 3, none⟩ = some (.int .i64 r.ow)
 c4 : w.cell? ⟨q, 4, none⟩ = some (.int .i64 r.pa)
 fr : ∀ i, w.frozen? ⟨q, i, none⟩ = false
theorem GBox.keep {w w' : World} {q : Nat} {l : Int} {r : Rg} (h : GBox w q l r) (k : w'.heap[q]? = w.heap[q]?) : GBox w' q l r :=
 ⟨(World.cell?_of_block (a := ⟨q, 0, none⟩) k).trans h.c0, (World.cell?_of_block (a := ⟨q, 1, none⟩) k).trans h.c1, (World.cell?_of_block (a := ⟨q, 2, none⟩) k).trans h.c2, (World.cell?_of_block (a := ⟨q, 3, none⟩) k).trans h.c3, (World.cell?_of_block (a := ⟨q, 4, none⟩) k).trans h.c4, fun i => (World.frozen?_of_block (a := ⟨q, i, none⟩) k).trans (h.fr i)⟩
theorem GBox.lt {w : World} {q : Nat} {l : Int} {r : Rg} (h : GBox w q l r) : q < w.heap.size := World.block_lt_of_cell? w _ h.c0
theorem GBox.below {w w' : World} {q n : Nat} {l : Int} {r : Rg} (h : GBox w q l r) (k : Below n w w') (hq : q < n) : GBox w' q l r := h.keep (k.block q hq)
theorem GBox.lock {w : World} {q : Nat} {l : Int} {r : Rg} (h : GBox w q l r) (l' : Int) : GBox (w.setCell ⟨q, 1, none⟩ (.int .i32 l')) q l' r := by
 obtain ⟨h0, h1, h2, h3, h4, hf⟩ := h;refine ⟨(pset_else (by decide)).trans h0, pset_same h1, (pset_else (by decide)).trans h2, (pset_else (by decide)).trans h3, (pset_else (by decide)).trans h4, fun i => ?_⟩;rw [World.frozen?_setCell]; exact hf i
theorem GBox.setEp {w : World} {q : Nat} {l : Int} {r : Rg} (h : GBox w q l r) (x : Int) : GBox (w.setCell ⟨q, 0, none⟩ (.int .i64 x)) q l ⟨x, r.ow, r.pa⟩ := by
 obtain ⟨h0, h1, h2, h3, h4, hf⟩ := h;refine ⟨pset_same h0, (pset_else (by decide)).trans h1, (pset_else (by decide)).trans h2, (pset_else (by decide)).trans h3, (pset_else (by decide)).trans h4, fun i => ?_⟩;rw [World.frozen?_setCell]; exact hf i
theorem GBox.setOw {w : World} {q : Nat} {l : Int} {r : Rg} (h : GBox w q l r) (x : Int) : GBox (w.setCell ⟨q, 3, none⟩ (.int .i64 x)) q l ⟨r.ep, x, r.pa⟩ := by
 obtain ⟨h0, h1, h2, h3, h4, hf⟩ := h;refine ⟨(pset_else (by decide)).trans h0, (pset_else (by decide)).trans h1, (pset_else (by decide)).trans h2, pset_same h3, (pset_else (by decide)).trans h4, fun i => ?_⟩;rw [World.frozen?_setCell]; exact hf i
theorem GBox.setPa {w : World} {q : Nat} {l : Int} {r : Rg} (h : GBox w q l r) (x : Int) : GBox (w.setCell ⟨q, 4, none⟩ (.int .i64 x)) q l ⟨r.ep, r.ow, x⟩ := by
 obtain ⟨h0, h1, h2, h3, h4, hf⟩ := h;refine ⟨(pset_else (by decide)).trans h0, (pset_else (by decide)).trans h1, (pset_else (by decide)).trans h2, (pset_else (by decide)).trans h3, pset_same h4, fun i => ?_⟩;rw [World.frozen?_setCell]; exact hf i
theorem loadG (x : Int) (q : Nat) (w : World) (h : w.cell? ⟨q, 0, none⟩ = some (.int .i64 x)) :
  Calls Tryz.prog 131 #[.pointer (some ⟨q, 0, none⟩)] w fun e w' => e = .returned (.int .i64 x) ∧ w' = w := by
 have hl := run_call_load (P := Tryz.prog) Tryz.func179 (by kernel_rfl) (by kernel_rfl) (by kernel_rfl) .i64 (by kernel_rfl) h;go_enter Tryz.func131, Tryz.ntmps131
 go_wp2
 go_ret
 exact ⟨rfl, rfl⟩
theorem storeG (x : Int) (u : Value) (q : Nat) (w : World) (h : w.cell? ⟨q, 0, none⟩ = some u) (hz : w.frozen? ⟨q, 0, none⟩ = false) :
  Calls Tryz.prog 124 #[.pointer (some ⟨q, 0, none⟩), .int .i64 x] w fun e w' => e = .returned (.tuple #[]) ∧ w' = w.setCell ⟨q, 0, none⟩ (.int .i64 x) := by
 have hl := run_call_store (P := Tryz.prog) Tryz.func171 (by kernel_rfl) (by kernel_rfl) (by kernel_rfl) (by kernel_rfl) (k := .i64) (y := x) h hz;go_enter Tryz.func124, Tryz.ntmps124
 go_wp2
 exact bodyPost_end (results_none rfl _ _ _) rfl ⟨rfl, rfl⟩
theorem addG (x : Int) (q : Nat) (w : World) (h : w.cell? ⟨q, 0, none⟩ = some (.int .i64 x)) (hz : w.frozen? ⟨q, 0, none⟩ = false) (h1 : 1 ≤ x) (h2 : x ≤ 100000) :
  Calls Tryz.prog 130 #[.pointer (some ⟨q, 0, none⟩), .int .i64 1] w fun e w' => e = .returned (.int .i64 (x + 1)) ∧ w' = w.setCell ⟨q, 0, none⟩ (.int .i64 (x + 1)) := by
 have hs : (Op.intArith .add .i64 x 1).run Tryz.prog w = .ok (.int .i64 (x + 1)) w := by
  have hw : IntKind.i64.wrap (x + 1) = x + 1 := by
   first | (simp [IntKind.wrap]; omega) | (have hz : wrap64 (x + 1) = x + 1 := by { unfold wrap64; omega }; exact hz) | (simp [IntKind.wrap, IntKind.bits, IntKind.signed]; omega)
  simp [go_sem, hw]
 have hl := run_call_add (P := Tryz.prog) Tryz.func178 (by kernel_rfl) (by kernel_rfl) (by kernel_rfl) .i64 (by kernel_rfl) h hz hs;go_enter Tryz.func130, Tryz.ntmps130
 go_wp2
 go_ret
 exact ⟨rfl, rfl⟩
theorem epochI (x : Int) (q : Nat) (w : World) (h : w.cell? ⟨q, 0, none⟩ = some (.int .i64 x)) :
  Calls Tryz.prog 60 #[.pointer (some ⟨q, 0, none⟩)] w fun e w' => e = .returned (.int .i64 x) ∧ w' = w := by
 go_enter Tryz.func60, Tryz.ntmps60
 go_wp2_with fail
 go_at_call 131
 refine (loadG x q w h).mono ?_;rintro e w' ⟨rfl, rfl⟩;go_wp2
 go_ret
 exact ⟨rfl, rfl⟩
open Go.MuLone
set_option maxHeartbeats 2000000 in
theorem isOfI (r : Rg) (s ep : Int) (q : Nat) (w : World) (G : GBox w q 0 r) :
  Calls Tryz.prog 71 #[.pointer (some ⟨q, 0, none⟩), .int .i64 s, .int .i64 ep] w fun e w' => e = .returned (.bool (decide (r.ow = s) && decide (r.ep = ep))) ∧ GBox w' q 0 r ∧ Turned q none w w' := by
 obtain ⟨R, hR⟩ : ∃ R, R = (decide (r.ow = s) && decide (r.ep = ep)) := ⟨_, rfl⟩;rw [← hR];replace hR : Hid _ := hR;go_enter_defers Tryz.func71, Tryz.ntmps71
 go_wp2_with fail
 go_at_call 128
 refine (lock_free Tryz.muLib ⟨q, 1, none⟩ w G.c1 (G.fr 1)).mono ?_;rintro e w' ⟨rfl, rfl⟩;obtain ⟨v, hv⟩ : ∃ v, v = w.setCell ⟨q, 1, none⟩ (.int .i32 1) := ⟨_, rfl⟩;have G1 : GBox v q 1 r := by rw [hv]; exact G.lock 1
 have T1 : Turned q none w v := by rw [hv]; exact (Turned.refl _ _ _).set 1 _
 rw [← hv];clear hv G;have c0 := G1.c0;have c3 := G1.c3;by_cases e1 : r.ow = s
 rotate_left;focus
  have h1 : decide (r.ow = s) = false := decide_eq_false e1;have hN : Hid (R = false) := by unfold Hid; rw [hR.out, h1]; rfl
 rotate_left;focus
  have h1 : decide (r.ow = s) = true := decide_eq_true e1;have hN : Hid (R = decide (r.ep = ep)) := by unfold Hid; rw [hR.out, h1]; rfl
  replace e1 : Hid _ := e1;go_wp2_with fail
  go_at_call 60
  refine (epochI r.ep q v c0).mono ?_;rintro e w' ⟨rfl, rfl⟩
 rotate_left;all_goals
  go_wp2
  refine leaves_cons (f := 129) (args := #[.pointer (some ⟨q, 1, none⟩)]) (by simp) (by simp [go_sem]) ?_;refine (unlock_deferred Tryz.muLib ⟨q, 1, none⟩ .returning _ G1.c1 (G1.fr 1)).mono ?_;rintro e u' w'' ⟨rfl, rfl, rfl⟩;exact ⟨_, results_tmp rfl _ _ _, by rw [hN.out]; rfl, G1.lock 0, T1.set 1 _⟩
set_option maxHeartbeats 2000000 in
theorem pairWI (r : Rg) (p : Int) (q : Nat) (w : World) (G : GBox w q 0 r) :
  Calls Tryz.prog 68 #[.pointer (some ⟨q, 0, none⟩), .int .i64 p] w fun e w' => e = .returned (.tuple #[]) ∧ GBox w' q 0 ⟨r.ep, r.ow, p⟩ ∧ Turned q none w w' := by
 go_enter_defers Tryz.func68, Tryz.ntmps68
 go_wp2_with fail
 go_at_call 128
 refine (lock_free Tryz.muLib ⟨q, 1, none⟩ w G.c1 (G.fr 1)).mono ?_;rintro e w' ⟨rfl, rfl⟩;obtain ⟨v, hv⟩ : ∃ v, v = w.setCell ⟨q, 1, none⟩ (.int .i32 1) := ⟨_, rfl⟩;have G1 : GBox v q 1 r := by rw [hv]; exact G.lock 1
 have T1 : Turned q none w v := by rw [hv]; exact (Turned.refl _ _ _).set 1 _
 rw [← hv];clear hv G;have c4 := G1.c4;have f4 := G1.fr 4;have G2 := G1.setPa p;have T2 := T1.set 4 (.int .i64 p);go_wp2
 refine leaves_cons (f := 129) (args := #[.pointer (some ⟨q, 1, none⟩)]) (by simp) (by simp [go_sem]) ?_;refine (unlock_deferred Tryz.muLib ⟨q, 1, none⟩ .returning _ G2.c1 (G2.fr 1)).mono ?_;rintro e u' w'' ⟨rfl, rfl, rfl⟩;exact ⟨_, results_none rfl _ _ _, rfl, G2.lock 0, T2.set 1 _⟩
set_option maxHeartbeats 2000000 in
theorem regOkI (r : Rg) (w : World) : Calls Tryz.prog 20 #[.agg #[.int .i64 r.ep, .int .i64 r.ow, .int .i64 r.pa]] w fun e w' => e = .returned (.bool (rgOk r)) ∧ Below w.heap.size w w' := by
 obtain ⟨R, hR⟩ := mk_ (rgOk r);rw [← hR];replace hR : Hid _ := hR;obtain ⟨y, hy⟩ := mk_ (w.alloc (Obj.cells #[.int .i64 r.ep, .int .i64 r.ow, .int .i64 r.pa] 25));have B0 : Below w.heap.size w y := by rw [hy]; exact below_new _
 have A : RgAt y w.heap.size r := by rw [hy]; exact RgAt.new w _ r
 go_enter Tryz.func20, Tryz.ntmps20
 go_upto_region 1 with fail
 rw [← hy];clear hy;obtain ⟨a0, a1, a2⟩ := A;by_cases e1 : 1 ≤ r.ep
 ·
  have d1 : decide (1 ≤ r.ep) = true := decide_eq_true e1;by_cases e2 : r.ep ≤ 100000
  ·
   have d2 : decide (r.ep ≤ 100000) = true := decide_eq_true e2;by_cases e3 : r.ow = 0
   ·
    have d3 : decide (r.ow = 0) = true := decide_eq_true e3;have b3 : (r.ow == 0) = true := by simpa using e3
    have hN : Hid (R = numB r.pa) := by unfold Hid; rw [hR.out]; unfold rgOk; rw [decide_eq_true (⟨e1, e2⟩ : 1 ≤ r.ep ∧ r.ep ≤ 100000), decide_eq_true (show 0 ≤ r.ow ∧ r.ow ≤ 1 by omega)]; rfl
    replace e1 : Hid _ := e1;replace e2 : Hid _ := e2;replace e3 : Hid _ := e3;go_wp2_with fail
    go_at_call 72
    refine (numFitsI r.pa y).mono ?_;rintro e w' ⟨rfl, rfl⟩;go_wp2
    go_ret
    exact ⟨by rw [hN.out]; rfl, B0⟩
   have d3 : decide (r.ow = 0) = false := decide_eq_false e3;have b3 : (r.ow == 0) = false := by simpa using e3
   by_cases e4 : r.ow = 1
   ·
    have d4 : decide (r.ow = 1) = true := decide_eq_true e4;have b4 : (r.ow == 1) = true := by simpa using e4
    have hN : Hid (R = numB r.pa) := by unfold Hid; rw [hR.out]; unfold rgOk; rw [decide_eq_true (⟨e1, e2⟩ : 1 ≤ r.ep ∧ r.ep ≤ 100000), decide_eq_true (show 0 ≤ r.ow ∧ r.ow ≤ 1 by omega)]; rfl
    replace e1 : Hid _ := e1;replace e2 : Hid _ := e2;replace e3 : Hid _ := e3;replace e4 : Hid _ := e4;go_wp2_with fail
    go_at_call 72
    refine (numFitsI r.pa y).mono ?_;rintro e w' ⟨rfl, rfl⟩;go_wp2
    go_ret
    exact ⟨by rw [hN.out]; rfl, B0⟩
   have d4 : decide (r.ow = 1) = false := decide_eq_false e4;have b4 : (r.ow == 1) = false := by simpa using e4
   have hN : Hid (R = false) := by unfold Hid; rw [hR.out]; unfold rgOk; rw [decide_eq_true (⟨e1, e2⟩ : 1 ≤ r.ep ∧ r.ep ≤ 100000), decide_eq_false (show ¬ (0 ≤ r.ow ∧ r.ow ≤ 1) by omega)]; rfl
   replace e1 : Hid _ := e1;replace e2 : Hid _ := e2;replace e3 : Hid _ := e3;replace e4 : Hid _ := e4;go_wp2
   go_ret
   exact ⟨by rw [hN.out]; rfl, B0⟩
  have d2 : decide (r.ep ≤ 100000) = false := decide_eq_false e2;have hN : Hid (R = false) := by unfold Hid; rw [hR.out]; unfold rgOk; rw [decide_eq_false (show ¬ (1 ≤ r.ep ∧ r.ep ≤ 100000) by omega)]; rfl
  replace e1 : Hid _ := e1;replace e2 : Hid _ := e2;go_wp2
  go_ret
  exact ⟨by rw [hN.out]; rfl, B0⟩
 have d1 : decide (1 ≤ r.ep) = false := decide_eq_false e1;have hN : Hid (R = false) := by unfold Hid; rw [hR.out]; unfold rgOk; rw [decide_eq_false (show ¬ (1 ≤ r.ep ∧ r.ep ≤ 100000) by omega)]; rfl
 replace e1 : Hid _ := e1;go_wp2
 go_ret
 exact ⟨by rw [hN.out]; rfl, B0⟩
end Go.Proofs.YtnpiljegdiconaaGreat
