/- Claims drawn. -/
import Derived.Test.YtlgcjhebbmejaaaRows
import Derived.WalkKit
import Derived.ProofKit
import Derived.OpenShut
import Derived.ShutString
import Derived.ChangeOld
import Derived.Below
import Derived.Deep.QuietTactic
import Derived.BigQuiet
import Derived.WalkSmall
import Derived.Laws.OwnMore
import Derived.WalkSpells
import Derived.WalkLawsBesides
import Derived.Test.YtlgcjhebbmejaaaVecIn
import Derived.Test.YtlgcjhebbmejaaaCur
import Derived.Test.YtlgcjhebbmejaaaTakes
namespace Go.Proofs.Ytlgcjhebbmejaaa
open Go.ChangeShapes Go.WideShapes Go.ChangeAt Go.RowKit
open Go.ChangeMaps (open_string shut_string)
set_option linter.unusedVariables false
set_option maxRecDepth 100000

/-- A claim's box: what its cells hold, and that they may be written. -/
def VBoxD (w : World) (q : Nat) (r c b p : Int) : Prop := VecAt w q r c b p ∧ ∀ i, w.frozen? ⟨q, i, none⟩ = false
theorem VBoxD.keep {w w' : World} {q : Nat} {r c b p : Int} (h : VBoxD w q r c b p) (k : w'.heap[q]? = w.heap[q]?) : VBoxD w' q r c b p :=
  ⟨⟨(World.cell?_of_block (a := ⟨q, 0, none⟩) k).trans h.1.1, (World.cell?_of_block (a := ⟨q, 1, none⟩) k).trans h.1.2.1, (World.cell?_of_block (a := ⟨q, 2, none⟩) k).trans h.1.2.2.1, (World.cell?_of_block (a := ⟨q, 3, none⟩) k).trans h.1.2.2.2⟩, fun i => (World.frozen?_of_block (a := ⟨q, i, none⟩) k).trans (h.2 i)⟩
theorem VBoxD.lt {w : World} {q : Nat} {r c b p : Int} (h : VBoxD w q r c b p) : q < w.heap.size := World.block_lt_of_cell? w _ h.1.1
theorem VBoxD.new (w : World) (t : TypeId) (r c b p : Int) : VBoxD (w.alloc (Obj.cells #[.int .i64 r, .int .i64 c, .int .i64 b, .int .i64 p] t)) w.heap.size r c b p :=
  ⟨vecAt_box w t r c b p, fun i => by simp [go_sem]⟩
theorem VBoxD.alloc {w : World} {q : Nat} {r c b p : Int} (h : VBoxD w q r c b p) (o : Obj) : VBoxD (w.alloc o) q r c b p := h.keep (Below.heap_alloc w o q h.lt)
theorem VBoxD.grown {w w' : World} {q cb : Nat} {r c b p : Int} (h : VBoxD w q r c b p) (g : w.grownBy w' (some cb)) (hne : q ≠ cb) : VBoxD w' q r c b p := h.keep (g.block q h.lt (by simpa using hne))
theorem VBoxD.below {w w' : World} {q n : Nat} {r c b p : Int} (h : VBoxD w q r c b p) (g : Below n w w') (hq : q < n) : VBoxD w' q r c b p := h.keep (g.block q hq)
theorem VBoxD.other {w : World} {q q' i : Nat} {r c b p : Int} {v : Value} (h : VBoxD w q r c b p) (hne : q ≠ q') : VBoxD (w.setCell ⟨q', i, none⟩ v) q r c b p := h.keep (Below.heap_setCell _ _ _ _ hne)
theorem set_same {w : World} {q i : Nat} {u v : Value} (h : w.cell? ⟨q, i, none⟩ = some u) : (w.setCell ⟨q, i, none⟩ v).cell? ⟨q, i, none⟩ = some v := cell_set_same ⟨_, h⟩
theorem set_else {w : World} {q i j : Nat} {v : Value} (h : i ≠ j) : (w.setCell ⟨q, i, none⟩ v).cell? ⟨q, j, none⟩ = w.cell? ⟨q, j, none⟩ := cell_set_ne (Ne.symm h)
theorem VBoxD.set0 {w : World} {q : Nat} {r c b p : Int} (x : Int) (h : VBoxD w q r c b p) : VBoxD (w.setCell ⟨q, 0, none⟩ (.int .i64 x)) q x c b p :=
  ⟨⟨set_same h.1.1, (set_else (by decide)).trans h.1.2.1, (set_else (by decide)).trans h.1.2.2.1, (set_else (by decide)).trans h.1.2.2.2⟩, fun i => by rw [World.frozen?_setCell]; exact h.2 i⟩
theorem VBoxD.set1 {w : World} {q : Nat} {r c b p : Int} (x : Int) (h : VBoxD w q r c b p) : VBoxD (w.setCell ⟨q, 1, none⟩ (.int .i64 x)) q r x b p :=
  ⟨⟨(set_else (by decide)).trans h.1.1, set_same h.1.2.1, (set_else (by decide)).trans h.1.2.2.1, (set_else (by decide)).trans h.1.2.2.2⟩, fun i => by rw [World.frozen?_setCell]; exact h.2 i⟩
theorem VBoxD.set2 {w : World} {q : Nat} {r c b p : Int} (x : Int) (h : VBoxD w q r c b p) : VBoxD (w.setCell ⟨q, 2, none⟩ (.int .i64 x)) q r c x p :=
  ⟨⟨(set_else (by decide)).trans h.1.1, (set_else (by decide)).trans h.1.2.1, set_same h.1.2.2.1, (set_else (by decide)).trans h.1.2.2.2⟩, fun i => by rw [World.frozen?_setCell]; exact h.2 i⟩
theorem VBoxD.set3 {w : World} {q : Nat} {r c b p : Int} (x : Int) (h : VBoxD w q r c b p) : VBoxD (w.setCell ⟨q, 3, none⟩ (.int .i64 x)) q r c b x :=
  ⟨⟨(set_else (by decide)).trans h.1.1, (set_else (by decide)).trans h.1.2.1, (set_else (by decide)).trans h.1.2.2.1, set_same h.1.2.2.2⟩, fun i => by rw [World.frozen?_setCell]; exact h.2 i⟩
theorem VBoxD.put {w : World} {q : Nat} {r c b p : Int} (r2 c2 b2 p2 : Int) (h : VBoxD w q r c b p) : VBoxD ((((w.setCell ⟨q, 0, none⟩ (.int .i64 r2)).setCell ⟨q, 1, none⟩ (.int .i64 c2)).setCell ⟨q, 2, none⟩ (.int .i64 b2)).setCell ⟨q, 3, none⟩ (.int .i64 p2)) q r2 c2 b2 p2 := (((h.set0 r2).set1 c2).set2 b2).set3 p2
/-- Where something is being drawn: the cursor; nothing else that lay has turned. -/
structure DV (w : World) (cb : Nat) (ad : Option Addr) (len cap : Nat) (y : World) : Prop where
  cur : Cur y cb ad len cap
  gr : w.grownBy y (some cb)
theorem DV.src {w y : World} {cb : Nat} {ad : Option Addr} {len cap : Nat} {f : Nat → Int} (h : DV w cb ad len cap y) (hs : Src w cb ad len cap f) : Src y cb ad len cap f := hs.grown h.cur h.gr
theorem DV.start {w : World} {cb : Nat} {ad : Option Addr} {len cap : Nat} {f : Nat → Int} (hs : Src w cb ad len cap f) : DV w cb ad len cap w := ⟨hs.cur, grown_refl _ _⟩
theorem DV.step {w y z : World} {cb : Nat} {ad : Option Addr} {len cap : Nat} {f : Nat → Int} (h : DV w cb ad len cap y) (hs : Src z cb ad len cap f) (g : y.grownBy z (some cb)) : DV w cb ad len cap z := ⟨hs.cur, cu_trans h.gr g⟩
theorem DV.alloc {w y : World} {cb : Nat} {ad : Option Addr} {len cap : Nat} (h : DV w cb ad len cap y) (o : Obj) : DV w cb ad len cap (y.alloc o) :=
  ⟨h.cur.carry (Below.heap_alloc y o cb h.cur.lt), h.gr.os, h.gr.tape, h.gr.output, by have := h.gr.size; simp; omega, fun k hk hn => (Below.heap_alloc y o k (by have := h.gr.size; omega)).trans (h.gr.block k hk hn)⟩
theorem DV.set {w y : World} {cb : Nat} {ad : Option Addr} {len cap : Nat} {N i : Nat} (h : DV w cb ad len cap y) (hN : w.heap.size ≤ N) (hcb : cb < w.heap.size) (v : Value) : DV w cb ad len cap (y.setCell ⟨N, i, none⟩ v) :=
  ⟨h.cur.carry (Below.heap_setCell _ _ _ _ (by show cb ≠ N; omega)), h.gr.os, h.gr.tape, h.gr.output, by have := h.gr.size; simp; omega, fun k hk hn => (Below.heap_setCell _ _ _ _ (by show k ≠ N; omega)).trans (h.gr.block k hk hn)⟩
theorem DV.drew {w y : World} {cb : Nat} {ad : Option Addr} {len cap : Nat} (h : DV w cb ad len cap y) : DV w cb ad len cap y.drew := ⟨h.cur, h.gr.os, h.gr.tape, h.gr.output, h.gr.size, h.gr.block⟩
/-- Numbers that are drawn for claims are small. -/
def V4 (r c b p : Int) : Prop := (-1 ≤ r ∧ r ≤ 100) ∧ (-1 ≤ c ∧ c ≤ 100) ∧ (-1 ≤ b ∧ b ≤ 100) ∧ (-1 ≤ p ∧ p ≤ 100)
def DrewV (w : World) (cb : Nat) (ad : Option Addr) (len cap : Nat) (f : Nat → Int) (e : Ending) (w' : World) : Prop := ∃ r c b p, e = .returned (.agg #[.int .i64 r, .int .i64 c, .int .i64 b, .int .i64 p]) ∧ V4 r c b p ∧ Src w' cb ad len cap f ∧ w.grownBy w' (some cb)

theorem join_regionD {P : Program} {reg : Code} {K : Act → World → Prop} {Q : Exit → Act → World → Prop} {l : List Value} {ds : List Deferred} {W : World} (R : List Value → List Value → World → Prop) (h1 : ∀ l' W', R l l' W' → K ⟨l'.toArray, ds⟩ W') (h2 : ∀ K2 : Act → World → Prop, Hid (∀ l' W', R l l' W' → K2 ⟨l'.toArray, ds⟩ W') → Code.wp P reg (Exit.then K2 Q) ⟨l.toArray, ds⟩ W) : Code.wp P reg (Exit.then K Q) ⟨l.toArray, ds⟩ W := h2 K h1
set_option maxHeartbeats 4000000 in
theorem drawR6 {cb : Nat} {ad : Option Addr} {len cap : Nat} {f : Nat → Int} (w : World) (hs : Src w cb ad len cap f) (hcb : cb < w.heap.size) :
    Calls Try.prog 56 #[.pointer (some ⟨cb, 0, none⟩)] w fun e w' => DrewV w cb ad len cap f e w' := by
  obtain ⟨R, hRe⟩ : ∃ R, R = w.heap.size := ⟨_, rfl⟩
  have hR : w.heap.size ≤ R := by omega
  have hRc : R ≠ cb := by omega
  obtain ⟨x0, hx0⟩ : ∃ x, x = w.alloc (Obj.cells #[.int .i64 0, .int .i64 0, .int .i64 0, .int .i64 0] 25) := ⟨_, rfl⟩
  have D0 : DV w cb ad len cap x0 := by rw [hx0]; exact (DV.start hs).alloc _
  have Q0 : VBoxD x0 R 0 0 0 0 := by rw [hx0, hRe]; exact VBoxD.new w _ _ _ _ _
  go_enter Try.func56, Try.ntmps56
  go_wp2_with fail
  go_at_call 38
  rw [← hx0, ← hRe]
  clear hx0 hRe
  refine (drawBelow (D0.src hs) 4 (by omega) (by omega)).mono ?_
  rintro e y1 ⟨r, rfl, r0, r1, s1, g1⟩
  have D1 := D0.step s1 g1
  have Q1 := Q0.grown g1 hRc
  go_wp2_with fail
  go_at_call 38
  refine (drawBelow s1 4 (by omega) (by omega)).mono ?_
  rintro e y2 ⟨p, rfl, p0, p1, s2, g2⟩
  have D2 := D1.step s2 g2
  have Q2 := Q1.grown g2 hRc
  clear D0 Q0 D1 Q1 s1 g1 g2
  obtain ⟨N, hNe⟩ : ∃ N, N = y2.heap.size := ⟨_, rfl⟩
  have hN : w.heap.size ≤ N := by have := D2.gr.size; omega
  have hNc : N ≠ cb := by omega
  have hRN : R ≠ N := by have := Q2.lt; omega
  obtain ⟨x3, hx3⟩ : ∃ x, x = y2.alloc (Obj.cells #[.int .i64 (1 + r), .int .i64 0, .int .i64 0, .int .i64 p] 25) := ⟨_, rfl⟩
  have D3 : DV w cb ad len cap x3 := by rw [hx3]; exact D2.alloc _
  have Q3 : VBoxD x3 R 0 0 0 0 := by rw [hx3]; exact Q2.alloc _
  have V3 : VBoxD x3 N (1 + r) 0 0 p := by rw [hx3, hNe]; exact VBoxD.new y2 _ _ _ _ _
  go_wp2
  rw [← hx3, ← hNe]
  clear hx3 hNe D2 Q2
  refine join_regionD (fun l l' W' => ∃ (u : Int) (us : List Value), 0 ≤ u ∧ u < 3 ∧ us.length = 6 ∧ l' = l.take 10 ++ us ++ l.drop 16 ∧ VBoxD W' N (1 + r) 0 (1 + r + u) p ∧ VBoxD W' R 0 0 0 0 ∧ DV w cb ad len cap W') ?_ ?_
  rotate_left
  · intro K2 hT
    refine wp_region_held (S := fun Y => (∃ z, VBoxD Y N (1 + r) 0 z p) ∧ VBoxD Y R 0 0 0 0 ∧ DV w cb ad len cap Y) (by kernel_rfl) ?_
    change wpAnyH _ _ _ _ _ _ _ _ (World.drew _)
    have hb0 : (∃ z, VBoxD x3.drew N (1 + r) 0 z p) ∧ VBoxD x3.drew R 0 0 0 0 ∧ DV w cb ad len cap x3.drew := ⟨⟨_, V3⟩, Q3, D3.drew⟩
    obtain ⟨y0, hy0⟩ : ∃ y, y = x3.drew := ⟨_, rfl⟩
    rw [← hy0] at hb0 ⊢
    clear hy0
    refine takeW 0 10 (.pointer (some ⟨N, 0, none⟩)) rfl rfl (by kernel_rfl) (by kernel_rfl) (by kernel_rfl) (fun _ _ _ h => h) (by kernel_rfl) (by (intro w hSw; go_simp)) (by assumption) ?_
    simp only [List.set_cons_zero, List.set_cons_succ]
    refine takeW 1 11 (.int .i64 (1 + r)) rfl rfl (by kernel_rfl) (by kernel_rfl) (by kernel_rfl) (fun _ _ _ h => h) (by kernel_rfl) (by (intro Y hSw; obtain ⟨⟨_, ⟨C1, C2, C3, C4⟩, _⟩, _, _⟩ := hSw; go_simp)) (by assumption) ?_
    simp only [List.set_cons_zero, List.set_cons_succ]
    refine takeW 2 12 (.pointer (some ⟨cb, 0, none⟩)) rfl rfl (by kernel_rfl) (by kernel_rfl) (by kernel_rfl) (fun _ _ _ h => h) (by kernel_rfl) (by (intro w hSw; go_simp)) (by assumption) ?_
    simp only [List.set_cons_zero, List.set_cons_succ]
    refine wpAnyH_all (rs := [3]) (by kernel_rfl) (by simp) ?_
    intro i hi; obtain rfl : i = 3 := by simpa using hi
    refine wpOp_step rfl (fun K hK => ?_)
    rw [if_pos (by kernel_rfl)]
    go_simp
    go_at_call 38
    refine (drawBelow (hb0.2.2.src hs) 3 (by omega) (by omega)).mono ?_
    rintro e y1 ⟨u, rfl, u0, u1, s3, g3⟩
    have hwr : IntKind.i64.wrap (1 + r + u) = 1 + r + u := by rw [IntKind.wrap_i64]; omega
    obtain ⟨⟨z0, hz0⟩, hq0, hd0⟩ := hb0
    have hb1 : (∃ z, VBoxD y1 N (1 + r) 0 z p) ∧ VBoxD y1 R 0 0 0 0 ∧ DV w cb ad len cap y1 := ⟨⟨_, hz0.grown g3 hNc⟩, hq0.grown g3 hRc, hd0.step s3 g3⟩
    refine hK _ _ ⟨hb1, ?_⟩
    clear hK K hi
    refine takeW 4 14 (.int .i64 (1 + r + u)) rfl rfl (by kernel_rfl) (by kernel_rfl) (by kernel_rfl) (fun _ _ _ h => h) (by kernel_rfl) (by (intro w hSw; go_simp)) (by assumption) ?_
    simp only [List.set_cons_zero, List.set_cons_succ]
    refine takeW 5 15 (.pointer (some ⟨N, 2, none⟩)) rfl rfl (by kernel_rfl) (by kernel_rfl) (by kernel_rfl) (fun _ _ _ h => h) (by kernel_rfl) (by (intro w hSw; go_simp)) (by assumption) ?_
    simp only [List.set_cons_zero, List.set_cons_succ]
    refine wpAnyH_all (rs := [6]) (by kernel_rfl) (by simp) ?_
    intro i hi; obtain rfl : i = 6 := by simpa using hi
    refine wpOp_step rfl (fun K hK => ?_)
    rw [if_pos (by kernel_rfl)]
    obtain ⟨⟨z1, hz1⟩, hq1, hd1⟩ := hb1
    have c3 := hz1.1.2.2.1
    have f3 := hz1.2 2
    go_simp
    clear c3 f3
    obtain ⟨x4, hx4⟩ : ∃ z, z = y1.setCell ⟨N, 2, none⟩ (.int .i64 (1 + r + u)) := ⟨_, rfl⟩
    have V4' : VBoxD x4 N (1 + r) 0 (1 + r + u) p := by rw [hx4]; exact hz1.set2 _
    have Q4 : VBoxD x4 R 0 0 0 0 := by rw [hx4]; exact hq1.other hRN
    have D4 : DV w cb ad len cap x4 := by rw [hx4]; exact hd1.set hN hcb _
    rw [← hx4]
    clear hx4
    refine hK _ _ ⟨⟨⟨_, V4'⟩, Q4, D4⟩, ?_⟩
    clear hK K hi
    refine wpAnyH_done (by kernel_rfl) ?_ _
    exact hT.out _ _ ⟨u, [.pointer (some ⟨N, 0, none⟩), .int .i64 (1 + r), .pointer (some ⟨cb, 0, none⟩), .int .i64 u, .int .i64 (1 + r + u), .pointer (some ⟨N, 2, none⟩)], u0, u1, rfl, by kernel_rfl, V4', Q4, D4⟩
  rintro l' x4 ⟨u, us, u0, u1, hul, rfl, V4', Q4, D4⟩
  obtain ⟨u10, us, rfl⟩ : ∃ a b, us = a :: b := List.exists_cons_of_length_eq_add_one hul
  replace hul := Nat.succ.inj hul
  obtain ⟨u11, us, rfl⟩ : ∃ a b, us = a :: b := List.exists_cons_of_length_eq_add_one hul
  replace hul := Nat.succ.inj hul
  obtain ⟨u12, us, rfl⟩ : ∃ a b, us = a :: b := List.exists_cons_of_length_eq_add_one hul
  replace hul := Nat.succ.inj hul
  obtain ⟨u13, us, rfl⟩ : ∃ a b, us = a :: b := List.exists_cons_of_length_eq_add_one hul
  replace hul := Nat.succ.inj hul
  obtain ⟨u14, us, rfl⟩ : ∃ a b, us = a :: b := List.exists_cons_of_length_eq_add_one hul
  replace hul := Nat.succ.inj hul
  obtain ⟨u15, us, rfl⟩ : ∃ a b, us = a :: b := List.exists_cons_of_length_eq_add_one hul
  replace hul := Nat.succ.inj hul
  obtain rfl : us = [] := List.eq_nil_of_length_eq_zero hul
  clear hul
  simp only [List.take, List.drop, List.cons_append, List.nil_append]
  have VV := V4'
  obtain ⟨⟨c1, c2, c3, c4⟩, ff⟩ := V4'
  by_cases hu : 0 < u
  · have hd : decide (1 + r < 1 + r + u) = true := by simp; omega
    go_wp2_with fail
    go_at_call 38
    refine (drawBelow (D4.src hs) 3 (by omega) (by omega)).mono ?_
    rintro e y5 ⟨t, rfl, t0, t1, s5, g5⟩
    have D5 := D4.step s5 g5
    have Q5 := Q4.grown g5 hRc
    have V5 := VV.grown g5 hNc
    clear c1 c2 c3 c4 ff
    obtain ⟨x6, hx6⟩ : ∃ x, x = y5.setCell ⟨N, 1, none⟩ (.int .i64 (1 + t)) := ⟨_, rfl⟩
    have D6 : DV w cb ad len cap x6 := by rw [hx6]; exact D5.set hN hcb _
    have Q6 : VBoxD x6 R 0 0 0 0 := by rw [hx6]; exact Q5.other hRN
    have V6 : VBoxD x6 N (1 + r) (1 + t) (1 + r + u) p := by rw [hx6]; exact V5.set1 _
    have V6' := V6
    obtain ⟨⟨c1, c2, c3, c4⟩, ff⟩ := V5
    have f1 := ff 1
    have Q6' := Q6
    obtain ⟨⟨d1, d2, d3, d4⟩, gg⟩ := Q6
    have g0 := gg 0
    have g1 := gg 1
    have g2 := gg 2
    have g3 := gg 3
    obtain ⟨⟨h1, h2, h3, h4⟩, hh⟩ := V6
    rw [hx6] at h1 h2 h3 h4 d1 d2 d3 d4 g0 g1 g2 g3
    go_wp2
    rw [← hx6]
    obtain ⟨z, hz⟩ : ∃ z, z = (((x6.setCell ⟨R, 0, none⟩ (.int .i64 (1 + r))).setCell ⟨R, 1, none⟩ (.int .i64 (1 + t))).setCell ⟨R, 2, none⟩ (.int .i64 (1 + r + u))).setCell ⟨R, 3, none⟩ (.int .i64 (p)) := ⟨_, rfl⟩
    have Z := Q6'.put (1 + r) (1 + t) (1 + r + u) (p)
    rw [← hz] at Z ⊢
    have DZ : DV w cb ad len cap z := by rw [hz]; exact (((D6.set hR hcb _).set hR hcb _).set hR hcb _).set hR hcb _
    clear hz
    obtain ⟨⟨e1, e2, e3, e4⟩, _⟩ := Z
    exact bodyPost_ret (v := .agg #[.int .i64 (1 + r), .int .i64 (1 + t), .int .i64 (1 + r + u), .int .i64 (p)]) (by simp only [results, Try.results56]; simp [go_sem, e1, e2, e3, e4]) rfl ⟨_, _, _, _, rfl, ⟨by omega, by omega, by omega, by omega⟩, DZ.src hs, DZ.gr⟩
  · have hd : decide (1 + r < 1 + r + u) = false := by simp; omega
    have Q4' := Q4
    obtain ⟨⟨d1, d2, d3, d4⟩, gg⟩ := Q4
    have g0 := gg 0
    have g1 := gg 1
    have g2 := gg 2
    have g3 := gg 3
    go_wp2
    obtain ⟨z, hz⟩ : ∃ z, z = (((x4.setCell ⟨R, 0, none⟩ (.int .i64 (1 + r))).setCell ⟨R, 1, none⟩ (.int .i64 (0))).setCell ⟨R, 2, none⟩ (.int .i64 (1 + r + u))).setCell ⟨R, 3, none⟩ (.int .i64 (p)) := ⟨_, rfl⟩
    have Z := Q4'.put (1 + r) (0) (1 + r + u) (p)
    rw [← hz] at Z ⊢
    have DZ : DV w cb ad len cap z := by rw [hz]; exact (((D4.set hR hcb _).set hR hcb _).set hR hcb _).set hR hcb _
    clear hz
    obtain ⟨⟨e1, e2, e3, e4⟩, _⟩ := Z
    exact bodyPost_ret (v := .agg #[.int .i64 (1 + r), .int .i64 (0), .int .i64 (1 + r + u), .int .i64 (p)]) (by simp only [results, Try.results56]; simp [go_sem, e1, e2, e3, e4]) rfl ⟨_, _, _, _, rfl, ⟨by omega, by omega, by omega, by omega⟩, DZ.src hs, DZ.gr⟩

set_option maxHeartbeats 4000000 in
theorem drawL6 {cb : Nat} {ad : Option Addr} {len cap : Nat} {f : Nat → Int} (w : World) (hs : Src w cb ad len cap f) (hcb : cb < w.heap.size) :
    Calls Try.prog 57 #[.pointer (some ⟨cb, 0, none⟩)] w fun e w' => DrewV w cb ad len cap f e w' := by
  obtain ⟨R, hRe⟩ : ∃ R, R = w.heap.size := ⟨_, rfl⟩
  have hR : w.heap.size ≤ R := by omega
  have hRc : R ≠ cb := by omega
  obtain ⟨x0, hx0⟩ : ∃ x, x = w.alloc (Obj.cells #[.int .i64 0, .int .i64 0, .int .i64 0, .int .i64 0] 25) := ⟨_, rfl⟩
  have D0 : DV w cb ad len cap x0 := by rw [hx0]; exact (DV.start hs).alloc _
  have Q0 : VBoxD x0 R 0 0 0 0 := by rw [hx0, hRe]; exact VBoxD.new w _ _ _ _ _
  have h0 : cb < x0.heap.size := by have := D0.gr.size; omega
  go_enter Try.func57, Try.ntmps57
  go_wp2_with fail
  go_at_call 56
  rw [← hx0, ← hRe]
  clear hx0 hRe
  refine (drawR6 x0 (D0.src hs) h0).mono ?_
  rintro e y1 ⟨r, c, b, p, rfl, ⟨hr, hc, hb, hp⟩, s1, g1⟩
  have D1 := D0.step s1 g1
  have Q1 := Q0.grown g1 hRc
  clear D0 Q0 s1 g1 h0
  obtain ⟨N, hNe⟩ : ∃ N, N = y1.heap.size := ⟨_, rfl⟩
  have hN : w.heap.size ≤ N := by have := D1.gr.size; omega
  have hNc : N ≠ cb := by omega
  have hRN : R ≠ N := by have := Q1.lt; omega
  obtain ⟨x2, hx2⟩ : ∃ x, x = y1.alloc (Obj.cells #[.int .i64 r, .int .i64 c, .int .i64 b, .int .i64 p] 25) := ⟨_, rfl⟩
  have D2 : DV w cb ad len cap x2 := by rw [hx2]; exact D1.alloc _
  have Q2 : VBoxD x2 R 0 0 0 0 := by rw [hx2]; exact Q1.alloc _
  have V2 : VBoxD x2 N r c b p := by rw [hx2, hNe]; exact VBoxD.new y1 _ _ _ _ _
  go_wp2_with fail
  go_at_call 38
  rw [← hx2, ← hNe]
  clear hx2 hNe D1 Q1
  refine (drawBelow (D2.src hs) 10 (by omega) (by omega)).mono ?_
  rintro e y3 ⟨k, rfl, k0, k1, s3, g3⟩
  have D3 := D2.step s3 g3
  have Q3 := Q2.grown g3 hRc
  have V3 := V2.grown g3 hNc
  clear D2 Q2 V2 s3 g3
  obtain ⟨B, hBe⟩ : ∃ B, B = y3.heap.size := ⟨_, rfl⟩
  have hBc : B ≠ cb := by have := D3.gr.size; omega
  by_cases hk0 : k = 0
  · subst hk0
    obtain ⟨x4, hx4⟩ : ∃ x, x = y3.alloc (Obj.cells #[.int .i64 0, .int .i64 9, .int .i64 10] 3) := ⟨_, rfl⟩
    have D4 : DV w cb ad len cap x4 := by rw [hx4]; exact D3.alloc _
    have Q4 : VBoxD x4 R 0 0 0 0 := by rw [hx4]; exact Q3.alloc _
    have V4' : VBoxD x4 N r c b p := by rw [hx4]; exact V3.alloc _
    have hg : ∀ i, i < 3 → ∃ y, x4.cell? ⟨B, i, none⟩ = some (.int .i64 y) ∧ (-1 ≤ y ∧ y ≤ 100) := by
      intro i hi
      rw [hx4, hBe]
      obtain rfl | rfl | rfl : i = 0 ∨ i = 1 ∨ i = 2 := by omega
      · exact ⟨_, lit_at y3 _ _ 0 rfl, by omega⟩
      · exact ⟨_, lit_at y3 _ _ 1 rfl, by omega⟩
      · exact ⟨_, lit_at y3 _ _ 2 rfl, by omega⟩
    go_wp2_with fail
    go_at_call 39
    rw [← hx4, ← hBe]
    clear hx4 hBe D3 Q3 V3
    refine (pickIntP (D4.src hs) (fun y => -1 ≤ y ∧ y ≤ 100) B 3 3 hBc (by omega) (by omega) hg).mono ?_
    rintro e y5 ⟨v, rfl, hv, s5, g5⟩
    have D5 := D4.step s5 g5
    have Q5 := Q4.grown g5 hRc
    have V5 := V4'.grown g5 hNc
    clear hg D4 Q4 V4' s5 g5
    obtain ⟨x6, hx6⟩ : ∃ x, x = y5.setCell ⟨N, 0, none⟩ (.int .i64 v) := ⟨_, rfl⟩
    have D6 : DV w cb ad len cap x6 := by rw [hx6]; exact D5.set hN hcb _
    have Q6 : VBoxD x6 R 0 0 0 0 := by rw [hx6]; exact Q5.other hRN
    have V6 : VBoxD x6 N v c b p := by rw [hx6]; exact V5.set0 _
    obtain ⟨⟨c1, c2, c3, c4⟩, ff⟩ := V5
    have f1 := ff 0
    have Q6' := Q6
    obtain ⟨⟨d1, d2, d3, d4⟩, gg⟩ := Q6
    have g0 := gg 0
    have g1 := gg 1
    have g2 := gg 2
    have g3 := gg 3
    obtain ⟨⟨h1, h2, h3, h4⟩, hh⟩ := V6
    rw [hx6] at h1 h2 h3 h4 d1 d2 d3 d4 g0 g1 g2 g3
    go_wp2
    rw [← hx6]
    obtain ⟨z, hz⟩ : ∃ z, z = (((x6.setCell ⟨R, 0, none⟩ (.int .i64 (v))).setCell ⟨R, 1, none⟩ (.int .i64 (c))).setCell ⟨R, 2, none⟩ (.int .i64 (b))).setCell ⟨R, 3, none⟩ (.int .i64 (p)) := ⟨_, rfl⟩
    have Z := Q6'.put (v) (c) (b) (p)
    rw [← hz] at Z ⊢
    have DZ : DV w cb ad len cap z := by rw [hz]; exact (((D6.set hR hcb _).set hR hcb _).set hR hcb _).set hR hcb _
    clear hz
    obtain ⟨⟨e1, e2, e3, e4⟩, _⟩ := Z
    exact bodyPost_ret (v := .agg #[.int .i64 (v), .int .i64 (c), .int .i64 (b), .int .i64 (p)]) (by simp only [results, Try.results57]; simp [go_sem, e1, e2, e3, e4]) rfl ⟨_, _, _, _, rfl, ⟨by omega, by omega, by omega, by omega⟩, DZ.src hs, DZ.gr⟩
  have e0 : (k == 0) = false := by simp; omega
  by_cases hk1 : k = 1
  · subst hk1
    obtain ⟨x4, hx4⟩ : ∃ x, x = y3.alloc (Obj.cells #[.int .i64 (-1), .int .i64 0, .int .i64 20, .int .i64 21] 3) := ⟨_, rfl⟩
    have D4 : DV w cb ad len cap x4 := by rw [hx4]; exact D3.alloc _
    have Q4 : VBoxD x4 R 0 0 0 0 := by rw [hx4]; exact Q3.alloc _
    have V4' : VBoxD x4 N r c b p := by rw [hx4]; exact V3.alloc _
    have hg : ∀ i, i < 4 → ∃ y, x4.cell? ⟨B, i, none⟩ = some (.int .i64 y) ∧ (-1 ≤ y ∧ y ≤ 100) := by
      intro i hi
      rw [hx4, hBe]
      obtain rfl | rfl | rfl | rfl : i = 0 ∨ i = 1 ∨ i = 2 ∨ i = 3 := by omega
      · exact ⟨_, lit_at y3 _ _ 0 rfl, by omega⟩
      · exact ⟨_, lit_at y3 _ _ 1 rfl, by omega⟩
      · exact ⟨_, lit_at y3 _ _ 2 rfl, by omega⟩
      · exact ⟨_, lit_at y3 _ _ 3 rfl, by omega⟩
    go_wp2_with fail
    go_at_call 39
    rw [← hx4, ← hBe]
    clear hx4 hBe D3 Q3 V3
    refine (pickIntP (D4.src hs) (fun y => -1 ≤ y ∧ y ≤ 100) B 4 4 hBc (by omega) (by omega) hg).mono ?_
    rintro e y5 ⟨v, rfl, hv, s5, g5⟩
    have D5 := D4.step s5 g5
    have Q5 := Q4.grown g5 hRc
    have V5 := V4'.grown g5 hNc
    clear hg D4 Q4 V4' s5 g5
    obtain ⟨x6, hx6⟩ : ∃ x, x = y5.setCell ⟨N, 1, none⟩ (.int .i64 v) := ⟨_, rfl⟩
    have D6 : DV w cb ad len cap x6 := by rw [hx6]; exact D5.set hN hcb _
    have Q6 : VBoxD x6 R 0 0 0 0 := by rw [hx6]; exact Q5.other hRN
    have V6 : VBoxD x6 N r v b p := by rw [hx6]; exact V5.set1 _
    obtain ⟨⟨c1, c2, c3, c4⟩, ff⟩ := V5
    have f1 := ff 1
    have Q6' := Q6
    obtain ⟨⟨d1, d2, d3, d4⟩, gg⟩ := Q6
    have g0 := gg 0
    have g1 := gg 1
    have g2 := gg 2
    have g3 := gg 3
    obtain ⟨⟨h1, h2, h3, h4⟩, hh⟩ := V6
    rw [hx6] at h1 h2 h3 h4 d1 d2 d3 d4 g0 g1 g2 g3
    go_wp2
    rw [← hx6]
    obtain ⟨z, hz⟩ : ∃ z, z = (((x6.setCell ⟨R, 0, none⟩ (.int .i64 (r))).setCell ⟨R, 1, none⟩ (.int .i64 (v))).setCell ⟨R, 2, none⟩ (.int .i64 (b))).setCell ⟨R, 3, none⟩ (.int .i64 (p)) := ⟨_, rfl⟩
    have Z := Q6'.put (r) (v) (b) (p)
    rw [← hz] at Z ⊢
    have DZ : DV w cb ad len cap z := by rw [hz]; exact (((D6.set hR hcb _).set hR hcb _).set hR hcb _).set hR hcb _
    clear hz
    obtain ⟨⟨e1, e2, e3, e4⟩, _⟩ := Z
    exact bodyPost_ret (v := .agg #[.int .i64 (r), .int .i64 (v), .int .i64 (b), .int .i64 (p)]) (by simp only [results, Try.results57]; simp [go_sem, e1, e2, e3, e4]) rfl ⟨_, _, _, _, rfl, ⟨by omega, by omega, by omega, by omega⟩, DZ.src hs, DZ.gr⟩
  have e1 : (k == 1) = false := by simp; omega
  by_cases hk2 : k = 2
  · subst hk2
    obtain ⟨x4, hx4⟩ : ∃ x, x = y3.alloc (Obj.cells #[.int .i64 0, .int .i64 9, .int .i64 10] 3) := ⟨_, rfl⟩
    have D4 : DV w cb ad len cap x4 := by rw [hx4]; exact D3.alloc _
    have Q4 : VBoxD x4 R 0 0 0 0 := by rw [hx4]; exact Q3.alloc _
    have V4' : VBoxD x4 N r c b p := by rw [hx4]; exact V3.alloc _
    have hg : ∀ i, i < 3 → ∃ y, x4.cell? ⟨B, i, none⟩ = some (.int .i64 y) ∧ (-1 ≤ y ∧ y ≤ 100) := by
      intro i hi
      rw [hx4, hBe]
      obtain rfl | rfl | rfl : i = 0 ∨ i = 1 ∨ i = 2 := by omega
      · exact ⟨_, lit_at y3 _ _ 0 rfl, by omega⟩
      · exact ⟨_, lit_at y3 _ _ 1 rfl, by omega⟩
      · exact ⟨_, lit_at y3 _ _ 2 rfl, by omega⟩
    go_wp2_with fail
    go_at_call 39
    rw [← hx4, ← hBe]
    clear hx4 hBe D3 Q3 V3
    refine (pickIntP (D4.src hs) (fun y => -1 ≤ y ∧ y ≤ 100) B 3 3 hBc (by omega) (by omega) hg).mono ?_
    rintro e y5 ⟨v, rfl, hv, s5, g5⟩
    have D5 := D4.step s5 g5
    have Q5 := Q4.grown g5 hRc
    have V5 := V4'.grown g5 hNc
    clear hg D4 Q4 V4' s5 g5
    obtain ⟨x6, hx6⟩ : ∃ x, x = y5.setCell ⟨N, 2, none⟩ (.int .i64 v) := ⟨_, rfl⟩
    have D6 : DV w cb ad len cap x6 := by rw [hx6]; exact D5.set hN hcb _
    have Q6 : VBoxD x6 R 0 0 0 0 := by rw [hx6]; exact Q5.other hRN
    have V6 : VBoxD x6 N r c v p := by rw [hx6]; exact V5.set2 _
    obtain ⟨⟨c1, c2, c3, c4⟩, ff⟩ := V5
    have f1 := ff 2
    have Q6' := Q6
    obtain ⟨⟨d1, d2, d3, d4⟩, gg⟩ := Q6
    have g0 := gg 0
    have g1 := gg 1
    have g2 := gg 2
    have g3 := gg 3
    obtain ⟨⟨h1, h2, h3, h4⟩, hh⟩ := V6
    rw [hx6] at h1 h2 h3 h4 d1 d2 d3 d4 g0 g1 g2 g3
    go_wp2
    rw [← hx6]
    obtain ⟨z, hz⟩ : ∃ z, z = (((x6.setCell ⟨R, 0, none⟩ (.int .i64 (r))).setCell ⟨R, 1, none⟩ (.int .i64 (c))).setCell ⟨R, 2, none⟩ (.int .i64 (v))).setCell ⟨R, 3, none⟩ (.int .i64 (p)) := ⟨_, rfl⟩
    have Z := Q6'.put (r) (c) (v) (p)
    rw [← hz] at Z ⊢
    have DZ : DV w cb ad len cap z := by rw [hz]; exact (((D6.set hR hcb _).set hR hcb _).set hR hcb _).set hR hcb _
    clear hz
    obtain ⟨⟨e1, e2, e3, e4⟩, _⟩ := Z
    exact bodyPost_ret (v := .agg #[.int .i64 (r), .int .i64 (c), .int .i64 (v), .int .i64 (p)]) (by simp only [results, Try.results57]; simp [go_sem, e1, e2, e3, e4]) rfl ⟨_, _, _, _, rfl, ⟨by omega, by omega, by omega, by omega⟩, DZ.src hs, DZ.gr⟩
  have e2 : (k == 2) = false := by simp; omega
  by_cases hk3 : k = 3
  · subst hk3
    obtain ⟨x4, hx4⟩ : ∃ x, x = y3.alloc (Obj.cells #[.int .i64 (-1), .int .i64 3, .int .i64 4] 3) := ⟨_, rfl⟩
    have D4 : DV w cb ad len cap x4 := by rw [hx4]; exact D3.alloc _
    have Q4 : VBoxD x4 R 0 0 0 0 := by rw [hx4]; exact Q3.alloc _
    have V4' : VBoxD x4 N r c b p := by rw [hx4]; exact V3.alloc _
    have hg : ∀ i, i < 3 → ∃ y, x4.cell? ⟨B, i, none⟩ = some (.int .i64 y) ∧ (-1 ≤ y ∧ y ≤ 100) := by
      intro i hi
      rw [hx4, hBe]
      obtain rfl | rfl | rfl : i = 0 ∨ i = 1 ∨ i = 2 := by omega
      · exact ⟨_, lit_at y3 _ _ 0 rfl, by omega⟩
      · exact ⟨_, lit_at y3 _ _ 1 rfl, by omega⟩
      · exact ⟨_, lit_at y3 _ _ 2 rfl, by omega⟩
    go_wp2_with fail
    go_at_call 39
    rw [← hx4, ← hBe]
    clear hx4 hBe D3 Q3 V3
    refine (pickIntP (D4.src hs) (fun y => -1 ≤ y ∧ y ≤ 100) B 3 3 hBc (by omega) (by omega) hg).mono ?_
    rintro e y5 ⟨v, rfl, hv, s5, g5⟩
    have D5 := D4.step s5 g5
    have Q5 := Q4.grown g5 hRc
    have V5 := V4'.grown g5 hNc
    clear hg D4 Q4 V4' s5 g5
    obtain ⟨x6, hx6⟩ : ∃ x, x = y5.setCell ⟨N, 3, none⟩ (.int .i64 v) := ⟨_, rfl⟩
    have D6 : DV w cb ad len cap x6 := by rw [hx6]; exact D5.set hN hcb _
    have Q6 : VBoxD x6 R 0 0 0 0 := by rw [hx6]; exact Q5.other hRN
    have V6 : VBoxD x6 N r c b v := by rw [hx6]; exact V5.set3 _
    obtain ⟨⟨c1, c2, c3, c4⟩, ff⟩ := V5
    have f1 := ff 3
    have Q6' := Q6
    obtain ⟨⟨d1, d2, d3, d4⟩, gg⟩ := Q6
    have g0 := gg 0
    have g1 := gg 1
    have g2 := gg 2
    have g3 := gg 3
    obtain ⟨⟨h1, h2, h3, h4⟩, hh⟩ := V6
    rw [hx6] at h1 h2 h3 h4 d1 d2 d3 d4 g0 g1 g2 g3
    go_wp2
    rw [← hx6]
    obtain ⟨z, hz⟩ : ∃ z, z = (((x6.setCell ⟨R, 0, none⟩ (.int .i64 (r))).setCell ⟨R, 1, none⟩ (.int .i64 (c))).setCell ⟨R, 2, none⟩ (.int .i64 (b))).setCell ⟨R, 3, none⟩ (.int .i64 (v)) := ⟨_, rfl⟩
    have Z := Q6'.put (r) (c) (b) (v)
    rw [← hz] at Z ⊢
    have DZ : DV w cb ad len cap z := by rw [hz]; exact (((D6.set hR hcb _).set hR hcb _).set hR hcb _).set hR hcb _
    clear hz
    obtain ⟨⟨e1, e2, e3, e4⟩, _⟩ := Z
    exact bodyPost_ret (v := .agg #[.int .i64 (r), .int .i64 (c), .int .i64 (b), .int .i64 (v)]) (by simp only [results, Try.results57]; simp [go_sem, e1, e2, e3, e4]) rfl ⟨_, _, _, _, rfl, ⟨by omega, by omega, by omega, by omega⟩, DZ.src hs, DZ.gr⟩
  have e3 : (k == 3) = false := by simp; omega
  clear hBc
  have Q3' := Q3
  obtain ⟨⟨d1, d2, d3, d4⟩, gg⟩ := Q3
  have g0 := gg 0
  have g1 := gg 1
  have g2 := gg 2
  have g3 := gg 3
  obtain ⟨⟨h1, h2, h3, h4⟩, hh⟩ := V3
  clear hk0 hk1 hk2 hk3
  go_wp2
  obtain ⟨z, hz⟩ : ∃ z, z = (((y3.setCell ⟨R, 0, none⟩ (.int .i64 (r))).setCell ⟨R, 1, none⟩ (.int .i64 (c))).setCell ⟨R, 2, none⟩ (.int .i64 (b))).setCell ⟨R, 3, none⟩ (.int .i64 (p)) := ⟨_, rfl⟩
  have Z := Q3'.put (r) (c) (b) (p)
  rw [← hz] at Z ⊢
  have DZ : DV w cb ad len cap z := by rw [hz]; exact (((D3.set hR hcb _).set hR hcb _).set hR hcb _).set hR hcb _
  clear hz
  obtain ⟨⟨e1, e2, e3, e4⟩, _⟩ := Z
  exact bodyPost_ret (v := .agg #[.int .i64 (r), .int .i64 (c), .int .i64 (b), .int .i64 (p)]) (by simp only [results, Try.results57]; simp [go_sem, e1, e2, e3, e4]) rfl ⟨_, _, _, _, rfl, ⟨by omega, by omega, by omega, by omega⟩, DZ.src hs, DZ.gr⟩

end Go.Proofs.Ytlgcjhebbmejaaa
