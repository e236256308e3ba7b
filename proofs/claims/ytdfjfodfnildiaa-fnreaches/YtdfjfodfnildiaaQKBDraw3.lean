/- Bridges drawn. -/
import Derived.Test.YtdfjfodfnildiaaRows
import Derived.WalkKit
import Derived.ProofKit
import Derived.OpenShut
import Derived.ShutString
import Derived.ChangeOld
import Derived.Below
import Derived.Deep.QuietTactic
import Derived.BigQuiet
import Derived.WalkSmall
import Derived.Laws.OwnMore
import Derived.WalkSpells
import Derived.WalkLawsBesides
import Derived.Deep.Cut
import Derived.Maps.AppendAt
import Derived.Test.YtdfjfodfnildiaaQKBDraw2
namespace Go.Proofs.Ytdfjfodfnildiaa
open Go.ChangeShapes Go.WideShapes Go.ChangeAt Go.RowKit
open Go.ChangeMaps (open_string shut_string)
set_option linter.unusedVariables false
set_option maxRecDepth 100000

set_option maxHeartbeats 8000000 in
theorem drawL8 {cb : Nat} {ad : Option Addr} {len cap : Nat} {f : Nat → Int} (w : World) (hs : Src w cb ad len cap f) (hcb : cb < w.heap.size) : Calls Try.prog 63 #[.pointer (some ⟨cb, 0, none⟩)] w fun e w' => DrewB 6 w cb ad len cap f e w' := by
  obtain ⟨i0, hi, hz0, hz1, hz2⟩ := info_parts ptInfo
  obtain ⟨R, hRe⟩ : ∃ R, R = w.heap.size := ⟨_, rfl⟩
  have hR : w.heap.size ≤ R := by omega
  have hRc : R ≠ cb := by omega
  obtain ⟨x0, hx0⟩ : ∃ x, x = w.alloc (Obj.cells #[.int .i64 0, .slice none 0 0] 71) := ⟨_, rfl⟩
  have D0 : DV w cb ad len cap x0 := by rw [hx0]; exact (DV.start hs).alloc _
  have R0 : BBox x0 R 0 (.slice none 0 0) := by rw [hx0, hRe]; exact BBox.new w _ _ _
  have R0l := R0.lt
  go_enter Try.func63, Try.ntmps63
  go_wp2_with fail
  go_at_call 93
  rw [← hx0, ← hRe]
  clear hx0 hRe
  refine (drawR8 x0 (D0.src hs) D0.cur.lt).mono ?_
  rintro e y1 ⟨id, a, c, L, rfl, hL, o1, s1, g1⟩
  have D1 := D0.step s1 g1
  have R1 := R0.grown g1 hRc
  have z1 := g1.size
  have og : ∀ g_, (Value.slice a L.length c).ownBlock = some g_ → x0.heap.size ≤ g_ ∧ g_ < y1.heap.size := fun g_ e => o1.lt g_ e
  clear D0 R0 s1 g1
  obtain ⟨y4, hy4⟩ : ∃ y_, y_ = y1.alloc (Obj.cells #[.int .i64 id, .slice a L.length c] 71) := ⟨_, rfl⟩
  have kn : Below y1.heap.size y1 y4 := by rw [hy4]; exact below_new _
  have Q4 : BBox y4 y1.heap.size id (.slice a L.length c) := by rw [hy4]; exact BBox.new y1 _ _ _
  have D4 := D1.later8 kn
  have R4 := R1.below kn R1.lt
  have o4 : FOwn ptEnc 11 68 (R + 1) y4 (.slice a L.length c) L := (o1.later kn).base (by omega)
  go_upto_region 2 with fail
  rw [← hy4]
  clear hy4 kn D1 R1 o1
  generalize hQ : y1.heap.size = Q at Q4 og z1 ⊢
  have hRQ : R < Q := by omega
  have hQc : Q ≠ cb := by omega
  have hj : ∀ g_, (Value.slice a L.length c).ownBlock = some g_ → g_ ≠ Q := fun g_ e => by have := og g_ e; omega
  clear hQ og
  go_wp2_with fail
  go_at_call 38
  refine (drawBelow (D4.src hs) 8 (by decide) (by decide)).mono ?_
  rintro e y5 ⟨t, rfl, t0, t1, s5, g5⟩
  have D5 := D4.step s5 g5
  have R5 := R4.grown g5 hRc
  have Q5 := Q4.grown g5 hQc
  have o5 := o4.grown g5 (by omega)
  clear D4 R4 Q4 o4 s5 g5
  by_cases h0 : t = 0
  · subst h0
    obtain ⟨y6, hy6⟩ : ∃ y_, y_ = y5.alloc (Obj.cells #[.int .i64 0, .int .i64 9, .int .i64 10] 3) := ⟨_, rfl⟩
    have kn : Below y5.heap.size y5 y6 := by rw [hy6]; exact below_new _
    have hg : ∀ i, i < 3 → ∃ z, y6.cell? ⟨y5.heap.size, i, none⟩ = some (.int .i64 z) ∧ True := by
      intro i h_
      rw [hy6]
      rcases (by omega : i = 0 ∨ i = 1 ∨ i = 2) with rfl | rfl | rfl
      · exact ⟨0, by simp [go_sem], trivial⟩
      · exact ⟨9, by simp [go_sem], trivial⟩
      · exact ⟨10, by simp [go_sem], trivial⟩
    have D6 := D5.later8 kn
    have R6 := R5.below kn R5.lt
    have Q6 := Q5.below kn Q5.lt
    have o6 := o5.later kn
    have hne : y5.heap.size ≠ cb := by have := D5.cur.lt; omega
    go_wp2_with fail
    go_at_call 90
    rw [← hy6]
    clear hy6 kn
    generalize y5.heap.size = E at hg hne ⊢
    refine (pickIntP (D6.src hs) (fun _ => True) E 3 3 hne (by decide) (by decide) hg).mono ?_
    rintro e y7 ⟨v, rfl, _, s7, g7⟩
    have D7 := D6.step s7 g7
    have R7 := R6.grown g7 hRc
    have Q7 := Q6.grown g7 hQc
    have o7 := o6.grown g7 (by omega)
    clear D6 R6 Q6 o6 s7 g7 D5 R5 Q5 o5 hg
    obtain ⟨y8, hy8⟩ : ∃ y_, y_ = y7.setCell ⟨Q, 0, none⟩ (.int .i64 v) := ⟨_, rfl⟩
    have Q8 : BBox y8 Q v (.slice a L.length c) := by rw [hy8]; exact ⟨⟨pset_same Q7.at_.c0, (pset_else (by decide)).trans Q7.at_.c1⟩, fun i => by rw [World.frozen?_setCell]; exact Q7.fr i⟩
    have D8 : DV w cb ad len cap y8 := by rw [hy8]; exact D7.set (by omega) hcb _
    have R8 : BBox y8 R 0 (.slice none 0 0) := by rw [hy8]; exact R7.other (by omega)
    have o8 : FOwn ptEnc 11 68 (R + 1) y8 (.slice a L.length c) L := by rw [hy8]; exact o7.keep fun g_ e => Below.heap_setCell _ _ _ _ (by show g_ ≠ Q; exact hj g_ e)
    obtain ⟨⟨q0, q1⟩, qf⟩ := Q7
    go_upto_region 9 with fail
    rw [← hy8]
    clear hy8 q0 q1 qf D7 R7 o7
    have RP := R8.put v (.slice a L.length c)
    have DZ := (D8.set (N := R) (i := 0) (by omega) hcb (.int .i64 v)).set (N := R) (i := 1) (by omega) hcb (.slice a L.length c)
    have OZ : FOwn ptEnc 11 68 w.heap.size ((y8.setCell ⟨R, 0, none⟩ (.int .i64 v)).setCell ⟨R, 1, none⟩ (.slice a L.length c)) (.slice a L.length c) L := ((o8.other (q := R) (i := 0) (u := .int .i64 v) (by omega)).other (q := R) (i := 1) (u := .slice a L.length c) (by omega)).base (by omega)
    obtain ⟨⟨r0, r1⟩, rf⟩ := R8
    obtain ⟨⟨q0, q1⟩, qf⟩ := Q8
    obtain ⟨⟨p0, p1⟩, _⟩ := RP
    go_wp2
    refine bodyPost_ret (v := .agg #[.int .i64 v, .slice a L.length c]) (by simp [results, Try.results63, go_sem, *]) rfl ⟨v, _, _, L, rfl, ⟨hL.1, by omega⟩, OZ, DZ.src hs, DZ.gr⟩
  have e0 : (t == 0) = false := by simpa using h0
  by_cases h1 : t = 1
  · subst h1
    obtain ⟨g, rfl, hg1, hg2⟩ := o5.row (by omega)
    have hgQ : g ≠ Q := hj g rfl
    go_upto_region 6 with fail
    refine wp_region_held (S := fun Y => BrAt Y Q id (.slice (some ⟨g, 0, none⟩) L.length c)) (by kernel_rfl) ?_
    change wpAnyH _ _ _ _ _ _ _ _ (World.drew _)
    have D6 := D5.drew
    have R6 : BBox y5.drew R 0 (.slice none 0 0) := R5.keep rfl
    have Q6 : BBox y5.drew Q id (.slice (some ⟨g, 0, none⟩) L.length c) := Q5.keep rfl
    have o6 : FOwn ptEnc 11 68 (R + 1) y5.drew (.slice (some ⟨g, 0, none⟩) L.length c) L := o5.keep (fun _ _ => rfl)
    obtain ⟨u0, hu0⟩ : ∃ y_, y_ = y5.drew := ⟨_, rfl⟩
    rw [← hu0] at D6 R6 Q6 o6 ⊢
    clear hu0 D5 R5 Q5 o5
    have hT := Q6.at_
    refine takeW 0 16 (.pointer (some ⟨Q, 1, none⟩)) rfl rfl (by kernel_rfl) (by kernel_rfl) (by kernel_rfl) (fun _ _ _ h => h) (by kernel_rfl) (by (intro w hSw; go_simp)) (by assumption) ?_
    simp only [List.set_cons_zero, List.set_cons_succ]
    refine takeW 1 17 (.slice (some ⟨g, 0, none⟩) L.length c) rfl rfl (by kernel_rfl) (by kernel_rfl) (by kernel_rfl) (fun _ _ _ h => h) (by kernel_rfl) (by (intro Y hSw; obtain ⟨X0, X1⟩ := hSw; go_simp)) (by assumption) ?_
    simp only [List.set_cons_zero, List.set_cons_succ]
    refine takeW 2 18 (.pointer (some ⟨cb, 0, none⟩)) rfl rfl (by kernel_rfl) (by kernel_rfl) (by kernel_rfl) (fun _ _ _ h => h) (by kernel_rfl) (by (intro w hSw; go_simp)) (by assumption) ?_
    simp only [List.set_cons_zero, List.set_cons_succ]
    refine wpAnyH_all (rs := [3]) (by kernel_rfl) (by simp) ?_
    intro i hi; obtain rfl : i = 3 := by simpa using hi
    refine wpOp_step rfl (fun K hK => ?_)
    rw [if_pos (by kernel_rfl)]
    go_simp
    go_at_call 94
    refine (drawL7 u0 (D6.src hs) D6.cur.lt).mono ?_
    rintro e u1 ⟨z, rfl, s7, g7⟩
    have D6 := D6.step s7 g7
    have R6 := R6.grown g7 hRc
    have Q6 := Q6.grown g7 hQc
    have o6 := o6.grown g7 (by omega)
    have hT := Q6.at_
    clear s7 g7
    refine hK _ _ ⟨hT, ?_⟩
    clear hK K hi
    refine takeW 4 20 (.pointer (some ⟨g, 0, none⟩)) rfl rfl (by kernel_rfl) (by kernel_rfl) (by kernel_rfl) (fun _ _ _ h => h) (by kernel_rfl) (by (intro Y hSw; go_simp; intro e; exfalso; have h1_ := hL.1; rw [e] at h1_; simp at h1_)) (by assumption) ?_
    simp only [List.set_cons_zero, List.set_cons_succ]
    refine wpAnyH_all (rs := [5]) (by kernel_rfl) (by simp) ?_
    intro i hi; obtain rfl : i = 5 := by simpa using hi
    refine wpOp_step rfl (fun K hK => ?_)
    rw [if_pos (by kernel_rfl)]
    obtain ⟨t0, t1, t2, t3, t4, t5, t6, t7, t8, t9, t10⟩ : PtAtO u1 g 0 (L.getD 0 Pt.nil) := ptAtO_of (by have := o6.cell ptEnc_len Pt.nil (i := 0) (by omega); simpa using this)
    simp only [Nat.zero_add] at t0 t1 t2 t3 t4 t5 t6 t7 t8 t9 t10
    have ff := o6.frozen
    have f0 := ff 0
    have f1 := ff 1
    have f2 := ff 2
    have f3 := ff 3
    have f4 := ff 4
    have f5 := ff 5
    have f6 := ff 6
    have f7 := ff 7
    have f8 := ff 8
    have f9 := ff 9
    have f10 := ff 10
    have MS := o6.set ptEnc_len (by omega) (i := 0) (by omega) z
    rw [Nat.zero_mul, ptPut] at MS
    simp only [Nat.zero_add] at MS
    clear ff
    obtain ⟨uf, huf⟩ : ∃ y_, y_ = (((((((((((u1.setCell ⟨g, 0, none⟩ (.bool z.up)).setCell ⟨g, 1, none⟩ (.bool z.has)).setCell ⟨g, 2, none⟩ (.int .i64 z.r)).setCell ⟨g, 3, none⟩ (.int .i64 z.c)).setCell ⟨g, 4, none⟩ (.int .i64 z.b)).setCell ⟨g, 5, none⟩ (.int .i64 z.p)).setCell ⟨g, 6, none⟩ (.int .i64 z.h)).setCell ⟨g, 7, none⟩ (.int .i64 z.l)).setCell ⟨g, 8, none⟩ (.int .i64 z.ro)).setCell ⟨g, 9, none⟩ (.int .i64 z.wa)).setCell ⟨g, 10, none⟩ (.bool z.op)) := ⟨_, rfl⟩
    rw [← huf] at MS
    have Q7 : BBox uf Q id (.slice (some ⟨g, 0, none⟩) L.length c) := by rw [huf]; exact (((((((((((Q6.other (by omega)).other (by omega)).other (by omega)).other (by omega)).other (by omega)).other (by omega)).other (by omega)).other (by omega)).other (by omega)).other (by omega)).other (by omega))
    have R7 : BBox uf R 0 (.slice none 0 0) := by rw [huf]; exact (((((((((((R6.other (by omega)).other (by omega)).other (by omega)).other (by omega)).other (by omega)).other (by omega)).other (by omega)).other (by omega)).other (by omega)).other (by omega)).other (by omega))
    have D7 : DV w cb ad len cap uf := by rw [huf]; exact (((((((((((D6.set (by omega) hcb _).set (by omega) hcb _).set (by omega) hcb _).set (by omega) hcb _).set (by omega) hcb _).set (by omega) hcb _).set (by omega) hcb _).set (by omega) hcb _).set (by omega) hcb _).set (by omega) hcb _).set (by omega) hcb _)
    go_simp
    rw [← huf]
    clear huf t0 f0 t1 f1 t2 f2 t3 f3 t4 f4 t5 f5 t6 f6 t7 f7 t8 f8 t9 f9 t10 f10 D6 R6 Q6
    refine hK _ _ ⟨Q7.at_, ?_⟩
    clear hK K hi
    refine wpAnyH_done (by kernel_rfl) ?_ _
    obtain ⟨L6, hL6⟩ : ∃ L6, L6 = L.set 0 z := ⟨_, rfl⟩
    rw [← hL6] at MS
    have hl6 : Hid (L6.length = L.length) := by unfold Hid; rw [hL6, List.length_set]
    have MS2 : FOwn ptEnc 11 68 (R + 1) uf (.slice (some ⟨g, 0, none⟩) L6.length c) L6 := by rw [hl6.out]; exact MS
    clear hL6
    go_upto_region 9 with fail
    have RP := R7.put id (.slice (some ⟨g, 0, none⟩) L.length c)
    have DZ := (D7.set (N := R) (i := 0) (by omega) hcb (.int .i64 id)).set (N := R) (i := 1) (by omega) hcb (.slice (some ⟨g, 0, none⟩) L.length c)
    have OZ : FOwn ptEnc 11 68 w.heap.size ((uf.setCell ⟨R, 0, none⟩ (.int .i64 id)).setCell ⟨R, 1, none⟩ (.slice (some ⟨g, 0, none⟩) L.length c)) (.slice (some ⟨g, 0, none⟩) L.length c) L6 := ((MS.other (q := R) (i := 0) (u := .int .i64 id) (by omega)).other (q := R) (i := 1) (u := .slice (some ⟨g, 0, none⟩) L.length c) (by omega)).base (by omega)
    obtain ⟨⟨r0, r1⟩, rf⟩ := R7
    obtain ⟨⟨q0, q1⟩, qf⟩ := Q7
    obtain ⟨⟨p0, p1⟩, _⟩ := RP
    go_wp2
    refine bodyPost_ret (v := .agg #[.int .i64 id, .slice (some ⟨g, 0, none⟩) L.length c]) (by simp [results, Try.results63, go_sem, *]) rfl ⟨id, some ⟨g, 0, none⟩, c, L6, by rw [hl6.out], by rw [hl6.out]; omega, by rw [hl6.out]; exact OZ, DZ.src hs, DZ.gr⟩
  have e1 : (t == 1) = false := by simpa using h1
  by_cases h2 : t = 2
  · subst h2
    obtain ⟨y6, hy6⟩ : ∃ y_, y_ = y5.alloc (Obj.cells #[.bool false, .bool false, .int .i64 0, .int .i64 0, .int .i64 0, .int .i64 0, .int .i64 0, .int .i64 0, .int .i64 0, .int .i64 0, .bool false, .bool false, .bool false, .int .i64 0, .int .i64 0, .int .i64 0, .int .i64 0, .int .i64 0, .int .i64 0, .int .i64 0, .int .i64 0, .bool false] 68) := ⟨_, rfl⟩
    have kn : Below y5.heap.size y5 y6 := by rw [hy6]; exact below_new _
    have V1 : FView ptEnc y6 (some ⟨y5.heap.size, 0, none⟩) [Pt.nil, Pt.nil] := by
      intro _
      refine ⟨y5.heap.size, 0, rfl, fun j v hv => ?_⟩
      rw [hy6]
      have hj_ : j < 22 := by
        have := (List.getElem?_eq_some_iff.1 hv).1
        simpa [fcells, ptEnc] using this
      rcases (by omega : j = 0 ∨ j = 1 ∨ j = 2 ∨ j = 3 ∨ j = 4 ∨ j = 5 ∨ j = 6 ∨ j = 7 ∨ j = 8 ∨ j = 9 ∨ j = 10 ∨ j = 11 ∨ j = 12 ∨ j = 13 ∨ j = 14 ∨ j = 15 ∨ j = 16 ∨ j = 17 ∨ j = 18 ∨ j = 19 ∨ j = 20 ∨ j = 21) with rfl | rfl | rfl | rfl | rfl | rfl | rfl | rfl | rfl | rfl | rfl | rfl | rfl | rfl | rfl | rfl | rfl | rfl | rfl | rfl | rfl | rfl <;> (cases hv; simp [go_sem, Pt.nil])
    have D6 := D5.later8 kn
    have R6 := R5.below kn R5.lt
    have Q6 := Q5.below kn Q5.lt
    have o6 := o5.later kn
    have hcn := o5.capn
    have z6 := Q5.lt
    have cc_ := Q5
    obtain ⟨⟨q0, q1⟩, qf⟩ := cc_
    go_upto_region 8 with fail
    rw [hy6] at V1 D6 R6 Q6 o6
    go_wp2_with (first | (at_builtin; refine fappL ptEnc_len ptEnc_ones rfl _ _ 69 rfl (R + 1) 68 i0 (.agg #[.bool false, .bool false, .int .i64 0, .int .i64 0, .int .i64 0, .int .i64 0, .int .i64 0, .int .i64 0, .int .i64 0, .int .i64 0, .bool false]) 80 Try.underlying69 hi hz0 hz1 hz2 rfl (by decide) (by decide) (.slice a L.length c) L rfl o6 (some ⟨y5.heap.size, 0, none⟩) 2 [Pt.nil, Pt.nil] rfl (fun e => by cases e) V1 ?z0 ?z1 ?_) | go_in)
    case z0 => simp; omega
    case z1 => simp; omega
    intro vZ y7 o7 g7 ho7
    rw [← hy6] at g7 D6 R6 Q6 o6
    have z7 := g7.size
    obtain ⟨aZ, cZ, hvz⟩ := o7.open_
    obtain ⟨L6, hL6⟩ : ∃ L6, L6 = L ++ [Pt.nil, Pt.nil] := ⟨_, rfl⟩
    rw [← hL6] at o7 hvz
    have hl6 : 1 ≤ L6.length ∧ L6.length ≤ 6 := by rw [hL6, List.length_append]; simp; omega
    clear hL6
    subst hvz
    have j7 : ∀ g_, (Value.slice aZ L6.length cZ).ownBlock = some g_ → g_ ≠ Q := fun g_ e => by
      rcases ho7 with q | q
      · exact hj g_ (by rw [← q]; exact e)
      · rw [q] at e
        simp at e
        have := kn.size
        omega
    have D7 : DV w cb ad len cap y7 := ⟨D6.cur.carry (g7.block cb D6.cur.lt (fun e => by have := (o6.lt _ e.symm).1; omega)), D6.gr.os.symm ▸ g7.os, D6.gr.tape.symm ▸ g7.tape, D6.gr.output.symm ▸ g7.output, Nat.le_trans D6.gr.size g7.size, fun k hk hn => (g7.block k (by have := D6.gr.size; omega) (fun e => by have := (o6.lt _ e.symm).1; omega)).trans (D6.gr.block k hk hn)⟩
    have R7 := R6.keep (g7.block R R6.lt (fun e => by have := (o6.lt _ e.symm).1; omega))
    have Q7 := Q6.keep (g7.block Q Q6.lt (fun e => hj _ e.symm rfl))
    clear g7 o6 D6 R6 Q6 V1 hy6 ho7 q0 q1 qf
    obtain ⟨y8, hy8⟩ : ∃ y_, y_ = y7.setCell ⟨Q, 1, none⟩ (.slice aZ L6.length cZ) := ⟨_, rfl⟩
    have Q8 : BBox y8 Q id (.slice aZ L6.length cZ) := by rw [hy8]; exact ⟨⟨(pset_else (by decide)).trans Q7.at_.c0, pset_same Q7.at_.c1⟩, fun i => by rw [World.frozen?_setCell]; exact Q7.fr i⟩
    have D8 : DV w cb ad len cap y8 := by rw [hy8]; exact D7.set (by omega) hcb _
    have R8 : BBox y8 R 0 (.slice none 0 0) := by rw [hy8]; exact R7.other (by omega)
    have o8 : FOwn ptEnc 11 68 (R + 1) y8 (.slice aZ L6.length cZ) L6 := by rw [hy8]; exact o7.keep fun g_ e => Below.heap_setCell _ _ _ _ (by show g_ ≠ Q; exact j7 g_ e)
    obtain ⟨⟨q0, q1⟩, qf⟩ := Q7
    go_upto_region 9 with fail
    rw [← hy8]
    clear hy8 q0 q1 qf D7 R7 o7
    have RP := R8.put id (.slice aZ L6.length cZ)
    have DZ := (D8.set (N := R) (i := 0) (by omega) hcb (.int .i64 id)).set (N := R) (i := 1) (by omega) hcb (.slice aZ L6.length cZ)
    have OZ : FOwn ptEnc 11 68 w.heap.size ((y8.setCell ⟨R, 0, none⟩ (.int .i64 id)).setCell ⟨R, 1, none⟩ (.slice aZ L6.length cZ)) (.slice aZ L6.length cZ) L6 := ((o8.other (q := R) (i := 0) (u := .int .i64 id) (by omega)).other (q := R) (i := 1) (u := .slice aZ L6.length cZ) (by omega)).base (by omega)
    obtain ⟨⟨r0, r1⟩, rf⟩ := R8
    obtain ⟨⟨q0, q1⟩, qf⟩ := Q8
    obtain ⟨⟨p0, p1⟩, _⟩ := RP
    go_wp2
    refine bodyPost_ret (v := .agg #[.int .i64 id, .slice aZ L6.length cZ]) (by simp [results, Try.results63, go_sem, *]) rfl ⟨id, _, _, L6, rfl, hl6, OZ, DZ.src hs, DZ.gr⟩
  have e2 : (t == 2) = false := by simpa using h2
  go_upto_region 9 with fail
  have RP := R5.put id (.slice a L.length c)
  have DZ := (D5.set (N := R) (i := 0) (by omega) hcb (.int .i64 id)).set (N := R) (i := 1) (by omega) hcb (.slice a L.length c)
  have OZ : FOwn ptEnc 11 68 w.heap.size ((y5.setCell ⟨R, 0, none⟩ (.int .i64 id)).setCell ⟨R, 1, none⟩ (.slice a L.length c)) (.slice a L.length c) L := ((o5.other (q := R) (i := 0) (u := .int .i64 id) (by omega)).other (q := R) (i := 1) (u := .slice a L.length c) (by omega)).base (by omega)
  obtain ⟨⟨r0, r1⟩, rf⟩ := R5
  obtain ⟨⟨q0, q1⟩, qf⟩ := Q5
  obtain ⟨⟨p0, p1⟩, _⟩ := RP
  go_wp2
  refine bodyPost_ret (v := .agg #[.int .i64 id, .slice a L.length c]) (by simp [results, Try.results63, go_sem, *]) rfl ⟨id, _, _, L, rfl, ⟨hL.1, by omega⟩, OZ, DZ.src hs, DZ.gr⟩

end Go.Proofs.Ytdfjfodfnildiaa
