import Derived.Test.YtnpiljegdiconaaQM7
namespace Go.Proofs.Ytnpiljegdiconaa
open Go.ChangeShapes Go.WideShapes Go.ChangeAt Go.RowKit
open Go.ChangeMaps (open_string shut_string)
set_option linter.unusedVariables false
set_option maxRecDepth 100000
structure MiAt (w : World) (q : Nat) (m : Mi) (v : Value) : Prop where
 c0 : w.cell? ⟨q, 0, none⟩ = some (.bool m.up)
 c1 : w.cell? ⟨q, 1, none⟩ = some (.int .i64 m.li)
 c2 : w.cell? ⟨q, 2, none⟩ = some (.int .i64 m.ep)
 c3 : w.cell? ⟨q, 3, none⟩ = some (v)
 c4 : w.cell? ⟨q, 4, none⟩ = some (.int .i64 m.sd)
 c5 : w.cell? ⟨q, 5, none⟩ = some (.int .i64 m.ac)
 c6 : w.cell? ⟨q, 6, none⟩ = some (.int .i64 m.al)
theorem MiAt.keep {w w' : World} {q : Nat} {m : Mi} {v : Value} (h : MiAt w q m v) (k : w'.heap[q]? = w.heap[q]?) : MiAt w' q m v :=
 ⟨(World.cell?_of_block (a := ⟨q, 0, none⟩) k).trans h.c0, (World.cell?_of_block (a := ⟨q, 1, none⟩) k).trans h.c1, (World.cell?_of_block (a := ⟨q, 2, none⟩) k).trans h.c2, (World.cell?_of_block (a := ⟨q, 3, none⟩) k).trans h.c3, (World.cell?_of_block (a := ⟨q, 4, none⟩) k).trans h.c4, (World.cell?_of_block (a := ⟨q, 5, none⟩) k).trans h.c5, (World.cell?_of_block (a := ⟨q, 6, none⟩) k).trans h.c6⟩
theorem MiAt.below {w w' : World} {q n : Nat} {m : Mi} {v : Value} (h : MiAt w q m v) (k : Below n w w') (hq : q < n) : MiAt w' q m v := h.keep (k.block q hq)
theorem MiAt.lt {w : World} {q : Nat} {m : Mi} {v : Value} (h : MiAt w q m v) : q < w.heap.size := World.block_lt_of_cell? w _ h.c0
theorem MiAt.new (w : World) (t : TypeId) (m : Mi) (v : Value) : MiAt (w.alloc (Obj.cells #[.bool m.up, .int .i64 m.li, .int .i64 m.ep, v, .int .i64 m.sd, .int .i64 m.ac, .int .i64 m.al] t)) w.heap.size m v := by
 refine ⟨?_, ?_, ?_, ?_, ?_, ?_, ?_⟩ <;> simp [go_sem]
structure MiBox (w : World) (q : Nat) (m : Mi) (v : Value) : Prop where
 c0 : w.cell? ⟨q, 0, none⟩ = some (.bool m.up)
 c1 : w.cell? ⟨q, 1, none⟩ = some (.int .i64 m.li)
 c2 : w.cell? ⟨q, 2, none⟩ = some (.int .i64 m.ep)
 c3 : w.cell? ⟨q, 3, none⟩ = some (v)
 c4 : w.cell? ⟨q, 4, none⟩ = some (.int .i64 m.sd)
 c5 : w.cell? ⟨q, 5, none⟩ = some (.int .i64 m.ac)
 c6 : w.cell? ⟨q, 6, none⟩ = some (.int .i64 m.al)
 fr : ∀ i, w.frozen? ⟨q, i, none⟩ = false
theorem MiBox.keep {w w' : World} {q : Nat} {m : Mi} {v : Value} (h : MiBox w q m v) (k : w'.heap[q]? = w.heap[q]?) : MiBox w' q m v :=
 ⟨(World.cell?_of_block (a := ⟨q, 0, none⟩) k).trans h.c0, (World.cell?_of_block (a := ⟨q, 1, none⟩) k).trans h.c1, (World.cell?_of_block (a := ⟨q, 2, none⟩) k).trans h.c2, (World.cell?_of_block (a := ⟨q, 3, none⟩) k).trans h.c3, (World.cell?_of_block (a := ⟨q, 4, none⟩) k).trans h.c4, (World.cell?_of_block (a := ⟨q, 5, none⟩) k).trans h.c5, (World.cell?_of_block (a := ⟨q, 6, none⟩) k).trans h.c6, fun i => (World.frozen?_of_block (a := ⟨q, i, none⟩) k).trans (h.fr i)⟩
theorem MiBox.below {w w' : World} {q n : Nat} {m : Mi} {v : Value} (h : MiBox w q m v) (k : Below n w w') (hq : q < n) : MiBox w' q m v := h.keep (k.block q hq)
theorem MiBox.lt {w : World} {q : Nat} {m : Mi} {v : Value} (h : MiBox w q m v) : q < w.heap.size := World.block_lt_of_cell? w _ h.c0
theorem MiBox.new (w : World) (t : TypeId) (m : Mi) (v : Value) : MiBox (w.alloc (Obj.cells #[.bool m.up, .int .i64 m.li, .int .i64 m.ep, v, .int .i64 m.sd, .int .i64 m.ac, .int .i64 m.al] t)) w.heap.size m v := by
 refine ⟨?_, ?_, ?_, ?_, ?_, ?_, ?_, ?_⟩ <;> simp [go_sem]
structure MgBox (w : World) (q : Nat) (m : Mi) (v : Value) : Prop where
 c0 : w.cell? ⟨q, 0, none⟩ = some (v)
 c1 : w.cell? ⟨q, 1, none⟩ = some (.bool m.up)
 c2 : w.cell? ⟨q, 2, none⟩ = some (.int .i64 m.li)
 c3 : w.cell? ⟨q, 3, none⟩ = some (.int .i64 m.ep)
 c4 : w.cell? ⟨q, 4, none⟩ = some (.int .i64 m.sd)
 c5 : w.cell? ⟨q, 5, none⟩ = some (.int .i64 m.ac)
 c6 : w.cell? ⟨q, 6, none⟩ = some (.int .i64 m.al)
 fr : ∀ i, w.frozen? ⟨q, i, none⟩ = false
theorem MgBox.keep {w w' : World} {q : Nat} {m : Mi} {v : Value} (h : MgBox w q m v) (k : w'.heap[q]? = w.heap[q]?) : MgBox w' q m v :=
 ⟨(World.cell?_of_block (a := ⟨q, 0, none⟩) k).trans h.c0, (World.cell?_of_block (a := ⟨q, 1, none⟩) k).trans h.c1, (World.cell?_of_block (a := ⟨q, 2, none⟩) k).trans h.c2, (World.cell?_of_block (a := ⟨q, 3, none⟩) k).trans h.c3, (World.cell?_of_block (a := ⟨q, 4, none⟩) k).trans h.c4, (World.cell?_of_block (a := ⟨q, 5, none⟩) k).trans h.c5, (World.cell?_of_block (a := ⟨q, 6, none⟩) k).trans h.c6, fun i => (World.frozen?_of_block (a := ⟨q, i, none⟩) k).trans (h.fr i)⟩
theorem MgBox.below {w w' : World} {q n : Nat} {m : Mi} {v : Value} (h : MgBox w q m v) (k : Below n w w') (hq : q < n) : MgBox w' q m v := h.keep (k.block q hq)
theorem MgBox.lt {w : World} {q : Nat} {m : Mi} {v : Value} (h : MgBox w q m v) : q < w.heap.size := World.block_lt_of_cell? w _ h.c0
theorem MgBox.new (w : World) (t : TypeId) (m : Mi) (v : Value) : MgBox (w.alloc (Obj.cells #[v, .bool m.up, .int .i64 m.li, .int .i64 m.ep, .int .i64 m.sd, .int .i64 m.ac, .int .i64 m.al] t)) w.heap.size m v := by
 refine ⟨?_, ?_, ?_, ?_, ?_, ?_, ?_, ?_⟩ <;> simp [go_sem]
theorem MiBox.at_ {w : World} {q : Nat} {m : Mi} {v : Value} (h : MiBox w q m v) : MiAt w q m v := ⟨h.c0, h.c1, h.c2, h.c3, h.c4, h.c5, h.c6⟩
theorem MiBox.log {w : World} {q : Nat} {m : Mi} {v : Value} (h : MiBox w q m v) (v' : Value) : MiBox (w.setCell ⟨q, 3, none⟩ v') q m v' :=
 ⟨(pset_else (by decide)).trans h.c0, (pset_else (by decide)).trans h.c1, (pset_else (by decide)).trans h.c2, pset_same h.c3, (pset_else (by decide)).trans h.c4, (pset_else (by decide)).trans h.c5, (pset_else (by decide)).trans h.c6, fun i => by rw [World.frozen?_setCell]; exact h.fr i⟩
theorem MgBox.log {w : World} {q : Nat} {m : Mi} {v : Value} (h : MgBox w q m v) (v' : Value) : MgBox (w.setCell ⟨q, 0, none⟩ v') q m v' :=
 ⟨pset_same h.c0, (pset_else (by decide)).trans h.c1, (pset_else (by decide)).trans h.c2, (pset_else (by decide)).trans h.c3, (pset_else (by decide)).trans h.c4, (pset_else (by decide)).trans h.c5, (pset_else (by decide)).trans h.c6, fun i => by rw [World.frozen?_setCell]; exact h.fr i⟩
theorem MiBox.lg {w : World} {q : Nat} {m : Mi} {v : Value} (L : List Ik) (h : MiBox w q m v) : MiBox w q { m with lg := L } v := ⟨h.c0, h.c1, h.c2, h.c3, h.c4, h.c5, h.c6, h.fr⟩
theorem MgBox.lg {w : World} {q : Nat} {m : Mi} {v : Value} (L : List Ik) (h : MgBox w q m v) : MgBox w q { m with lg := L } v := ⟨h.c0, h.c1, h.c2, h.c3, h.c4, h.c5, h.c6, h.fr⟩
end Go.Proofs.Ytnpiljegdiconaa
namespace Go.Proofs.Ytnpiljegdiconaa
open Go.ChangeShapes Go.WideShapes Go.ChangeAt Go.RowKit
open Go.ChangeMaps (open_string shut_string)
set_option linter.unusedVariables false
set_option maxRecDepth 100000
theorem ikInfo : (Try.prog.info? 30).map (fun i => (i.zero, i.size, i.bytes)) = some (some (.agg #[.int .i64 0, .int .i64 0, .int .i64 0, .int .i64 0, .int .i64 0, .int .i64 0, .int .i64 0, .bool false]), 8, 64) := by kernel_rfl
theorem numFitsI (n : Int) (w : World) : Calls Try.prog 33 #[.int .i64 n] w fun e w' => e = .returned (.bool (numB n)) ∧ w' = w := by
 obtain ⟨R, hR⟩ := mk_ (numB n)
 rw [← hR]
 replace hR : Hid _ := hR
 by_cases h1 : 0 ≤ n
 ·
  have d1 : decide (0 ≤ n) = true := decide_eq_true h1
  have hN : Hid (R = decide (n ≤ 100000)) := by unfold Hid; rw [hR.out]; unfold numB; by_cases h2 : n ≤ 100000 <;> simp [h1, h2]
  clear hR
  go_enter Try.func33, Try.ntmps33
  go_wp2
  go_ret
  exact ⟨by rw [hN.out]; rfl, rfl⟩
 ·
  have d1 : decide (0 ≤ n) = false := decide_eq_false h1
  have hN : Hid (R = false) := by unfold Hid; rw [hR.out]; unfold numB; simp [h1]
  clear hR
  go_enter Try.func33, Try.ntmps33
  go_wp2
  go_ret
  exact ⟨by rw [hN.out]; rfl, rfl⟩
set_option maxHeartbeats 1000000 in
theorem cloneK (ad : Option Addr) (cap : Nat) (L : List Ik) (w : World) (hv : FView ikEnc w ad L) (hl : L.length ≤ 1048577) :
  Calls Try.prog 44 #[.slice ad L.length cap] w fun e w' => ∃ ad' cap', e = .returned (.slice ad' L.length cap') ∧ FOwn ikEnc 8 30 w.heap.size w' (.slice ad' L.length cap') L ∧ Below w.heap.size w w' := by
 obtain ⟨i1, hj, hy0, hy1, hy2⟩ := info_parts ikInfo
 cases ad with
 | none =>
  obtain rfl := hv.none_nil
  have hEq : ∀ (y : World) (c : Nat), (binOp .eql 24 (.slice none 0 c) (.slice none 0 0)).run Try.prog y = .ok (.bool true) y := fun y c => Go.Lib.run_eql_slice_nil y 24 30 none 0 c 0 0 Try.underlying24
  simp only [List.length_nil]
  go_enter Try.func44, Try.ntmps44
  go_wp2
  go_ret
  exact ⟨_, _, rfl, FOwn.nil, Below.refl _ _⟩
 | some a =>
  have hB := hv.lt ikEnc_len (by omega)
  have B0 := below_new (w := w) (Obj.cells #[] 30)
  have hv1 : FView ikEnc (w.alloc (Obj.cells #[] 30)) (some a) L := hv.below B0 hB
  have hEq : ∀ (y : World), (binOp .eql 24 (.slice (some a) L.length cap) (.slice none 0 0)).run Try.prog y = .ok (.bool false) y := fun y => Go.Lib.run_eql_slice_nil y 24 30 (some a) L.length cap 0 0 Try.underlying24
  go_enter Try.func44, Try.ntmps44
  go_wp2_with (first | (at_builtin; refine fappL ikEnc_len ikEnc_ones rfl _ _ 24 rfl w.heap.size 30 i1 (.agg #[.int .i64 0, .int .i64 0, .int .i64 0, .int .i64 0, .int .i64 0, .int .i64 0, .int .i64 0, .bool false]) 64 Try.underlying24 hj hy0 hy1 hy2 rfl (by decide) (by decide) _ ([] : List Ik) rfl (FOwn.empty w) (some a) cap L rfl (fun e => by cases e) hv1 ?z0 ?z1 ?_) | go_in)
  case z0 => simp; omega
  case z1 => simp
  intro vZ wZ hownZ hgrowZ _
  have BZ : Below w.heap.size w wZ := B0.grown hgrowZ (by simp) (fun j e => ((FOwn.empty w : FOwn ikEnc 8 30 _ _ _ _).lt j e).1)
  replace hownZ : FOwn ikEnc 8 30 w.heap.size wZ vZ L := hownZ
  obtain ⟨adZ, capZ, rfl⟩ := hownZ.open_
  clear hgrowZ B0 hv1
  go_wp2
  go_ret
  exact ⟨_, _, rfl, hownZ, BZ⟩
set_option maxHeartbeats 1000000 in
theorem jourI (ad : Option Addr) (cap : Nat) (L : List Ik) (w : World) (hv : FView ikEnc w ad L) (hl : L.length ≤ 1048577) :
  Calls Try.prog 32 #[.slice ad L.length cap] w fun e w' => ∃ a c, e = .returned (.agg #[.slice a L.length c]) ∧ FOwn ikEnc 8 30 w.heap.size w' (.slice a L.length c) L ∧ Below w.heap.size w w' := by
 have hB := hv.lt ikEnc_len (by omega)
 obtain ⟨y, hy⟩ := mk_ (w.alloc (Obj.cells #[.slice none 0 0] 49))
 have B0 : Below w.heap.size w y := by rw [hy]; exact below_new _
 have c0 : y.cell? ⟨w.heap.size, 0, none⟩ = some (.slice none 0 0) := by rw [hy]; simp [go_sem]
 have f0 : y.frozen? ⟨w.heap.size, 0, none⟩ = false := by rw [hy]; simp [go_sem]
 have S0 := World.block_lt_of_cell? _ _ c0
 go_enter Try.func32, Try.ntmps32
 go_wp2_with fail
 go_at_call 44
 rw [← hy]
 clear hy
 refine (cloneK ad cap L y (hv.below B0 hB) hl).mono ?_
 rintro e w1 ⟨a1, c1, rfl, O1, k1⟩
 have B1 := B0.trans (k1.mono B0.size)
 have c0 := (World.cell?_of_block (a := ⟨w.heap.size, 0, none⟩) (k1.block _ S0)).trans c0
 have f0 := (World.frozen?_of_block (a := ⟨w.heap.size, 0, none⟩) (k1.block _ S0)).trans f0
 have hne : ∀ g, (Value.slice a1 L.length c1).ownBlock = some g → g ≠ w.heap.size := fun g e => by have := (O1.lt g e).1; omega
 have O2 : FOwn ikEnc 8 30 w.heap.size (w1.setCell ⟨w.heap.size, 0, none⟩ (.slice a1 L.length c1)) (.slice a1 L.length c1) L := (O1.base B0.size).keep fun g e => Below.heap_setCell _ _ _ _ (hne g e)
 have B2 := B1.setCell (p := ⟨w.heap.size, 0, none⟩) (Nat.le_refl _) (.slice a1 L.length c1)
 clear k1 B0 hv hB O1 B1 hne
 go_wp2
 refine bodyPost_ret (v := .agg #[.slice a1 L.length c1]) (by simp [results, Try.results32, go_sem, *]) rfl ⟨_, _, rfl, O2, B2⟩
set_option maxHeartbeats 2000000 in
theorem mindOf (m : Mi) (ad : Option Addr) (cap : Nat) (w : World) (hv : FView ikEnc w ad m.lg) (hl : m.lg.length ≤ 1048577) :
  Calls Try.prog 18 #[.agg #[.bool m.up, .int .i64 m.li, .int .i64 m.ep, .slice ad m.lg.length cap, .int .i64 m.sd, .int .i64 m.ac, .int .i64 m.al]] w fun e w' => ∃ q a c, e = .returned (.pointer (some ⟨q, 0, none⟩)) ∧ MgBox w' q m (.slice a m.lg.length c) ∧ FOwn ikEnc 8 30 w.heap.size w' (.slice a m.lg.length c) m.lg ∧ (∀ g, (Value.slice a m.lg.length c).ownBlock = some g → g < q) ∧ w.heap.size < q ∧ Below w.heap.size w w' := by
 have hB := hv.lt ikEnc_len (by omega)
 obtain ⟨y, hy⟩ := mk_ (w.alloc (Obj.cells #[.bool m.up, .int .i64 m.li, .int .i64 m.ep, .slice ad m.lg.length cap, .int .i64 m.sd, .int .i64 m.ac, .int .i64 m.al] 26))
 have B0 : Below w.heap.size w y := by rw [hy]; exact below_new _
 have A : MiAt y w.heap.size m (.slice ad m.lg.length cap) := by rw [hy]; exact MiAt.new w _ _ _
 have S0 := A.lt
 have hv1 := hv.below B0 hB
 go_enter Try.func18, Try.ntmps18
 go_upto_region 1 with fail
 rw [← hy]
 clear hy
 refine wp_region_held (S := fun Y => Below y.heap.size y Y) (by kernel_rfl) ?_
 change wpAnyH _ _ _ _ _ _ _ _ (World.drew _)
 have hb0 : Below y.heap.size y y.drew := (Below.refl _ _).drew
 obtain ⟨u0, hy0⟩ := mk_ y.drew
 rw [← hy0] at hb0 ⊢
 clear hy0
 refine tw 0 3 (.pointer (some ⟨w.heap.size, 3, none⟩)) ?_
 refine tw 1 4 (.slice ad m.lg.length cap) ?_ (hy := by intro Y hSw; obtain ⟨X0, X1, X2, X3, X4, X5, X6⟩ := A.below hSw (by omega); go_simp)
 refine tw 3 6 (.pointer (some ⟨w.heap.size, 0, none⟩)) ?_
 refine tw 4 7 (.bool m.up) ?_ (hy := by intro Y hSw; obtain ⟨X0, X1, X2, X3, X4, X5, X6⟩ := A.below hSw (by omega); go_simp)
 refine tw 5 8 (.pointer (some ⟨w.heap.size, 1, none⟩)) ?_
 refine tw 6 9 (.int .i64 m.li) ?_ (hy := by intro Y hSw; obtain ⟨X0, X1, X2, X3, X4, X5, X6⟩ := A.below hSw (by omega); go_simp)
 refine tw 7 10 (.pointer (some ⟨w.heap.size, 2, none⟩)) ?_
 refine tw 8 11 (.int .i64 m.ep) ?_ (hy := by intro Y hSw; obtain ⟨X0, X1, X2, X3, X4, X5, X6⟩ := A.below hSw (by omega); go_simp)
 refine tw 9 12 (.pointer (some ⟨w.heap.size, 4, none⟩)) ?_
 refine tw 10 13 (.int .i64 m.sd) ?_ (hy := by intro Y hSw; obtain ⟨X0, X1, X2, X3, X4, X5, X6⟩ := A.below hSw (by omega); go_simp)
 refine tw 11 14 (.pointer (some ⟨w.heap.size, 5, none⟩)) ?_
 refine tw 12 15 (.int .i64 m.ac) ?_ (hy := by intro Y hSw; obtain ⟨X0, X1, X2, X3, X4, X5, X6⟩ := A.below hSw (by omega); go_simp)
 refine tw 13 16 (.pointer (some ⟨w.heap.size, 6, none⟩)) ?_
 refine tw 14 17 (.int .i64 m.al) ?_ (hy := by intro Y hSw; obtain ⟨X0, X1, X2, X3, X4, X5, X6⟩ := A.below hSw (by omega); go_simp)
 refine tw 15 18 (.agg #[.bool m.up, .int .i64 m.li, .int .i64 m.ep, .int .i64 m.sd, .int .i64 m.ac, .int .i64 m.al]) ?_
 refine w1 2 fun Kz hKz => ?_
 go_simp
 go_at_call 32
 refine (jourI ad cap m.lg u0 (hv1.below hb0 (hv1.lt ikEnc_len (by omega))) hl).mono ?_
 rintro e u1 ⟨a1, c1, rfl, O1, kq⟩
 have hb1 : Below y.heap.size y u1 := hb0.trans (kq.mono hb0.size)
 clear kq
 refine hKz _ _ ⟨hb1, ?_⟩
 clear hKz Kz
 refine tw 16 19 (.agg #[.slice a1 m.lg.length c1, .bool m.up, .int .i64 m.li, .int .i64 m.ep, .int .i64 m.sd, .int .i64 m.ac, .int .i64 m.al]) ?_
 refine w1 17 fun Kz hKz => ?_
 go_simp
 obtain ⟨u2, hu⟩ := mk_ (u1.alloc (Obj.cells #[.slice a1 m.lg.length c1, .bool m.up, .int .i64 m.li, .int .i64 m.ep, .int .i64 m.sd, .int .i64 m.ac, .int .i64 m.al] 53))
 have kq : Below u1.heap.size u1 u2 := by rw [hu]; exact below_new _
 have M2 : MgBox u2 u1.heap.size m (.slice a1 m.lg.length c1) := by rw [hu]; exact MgBox.new u1 _ _ _
 have hb2 : Below y.heap.size y u2 := hb1.trans (kq.mono hb1.size)
 have O2 := O1.later kq
 have lo := O1.lt
 have hb1s := hb1.size
 obtain ⟨q, hq⟩ := mk_ u1.heap.size
 rw [← hq] at M2 lo hb1s ⊢
 rw [← hu]
 clear hu kq hq
 refine hKz _ _ ⟨hb2, ?_⟩
 clear hKz Kz
 refine tw 18 2 (.pointer (some ⟨q, 0, none⟩)) ?_
 refine wpAnyH_done (by kernel_rfl) ?_ _
 have hO := O1.lt
 go_wp2
 go_ret
 exact ⟨q, a1, c1, rfl, M2, O2.base (Nat.le_trans B0.size hb0.size), fun g e => (lo g e).2, by omega, B0.trans (hb2.mono B0.size)⟩
theorem FView.oneJ (w : World) (t : TypeId) (x : Ik) : FView ikEnc (w.alloc (Obj.cells #[.int .i64 x.k, .int .i64 x.q, .int .i64 x.r, .int .i64 x.c, .int .i64 x.b, .int .i64 x.p, .int .i64 x.h, .bool x.up] t)) (some ⟨w.heap.size, 0, none⟩) [x] := by
 intro _
 refine ⟨w.heap.size, 0, rfl, fun j v hv => ?_⟩
 simp only [fcells, ikEnc, List.append_nil] at hv
 have hj : j < 8 := (List.getElem?_eq_some_iff.1 hv).1
 rcases (by omega : j = 0 ∨ j = 1 ∨ j = 2 ∨ j = 3 ∨ j = 4 ∨ j = 5 ∨ j = 6 ∨ j = 7) with rfl | rfl | rfl | rfl | rfl | rfl | rfl | rfl <;> (cases hv; simp [go_sem])
theorem grown_row {w y z : World} {cb : Nat} {v : Value} (h : w.grownBy y (some cb)) (g : y.grownBy z v.ownBlock) (ho : ∀ k, v.ownBlock = some k → w.heap.size ≤ k) : w.grownBy z (some cb) :=
 ⟨g.os.trans h.os, g.tape.trans h.tape, g.output.trans h.output, Nat.le_trans h.size g.size, fun j hj hne => (g.block j (Nat.lt_of_lt_of_le hj h.size) (fun e => by have := ho j e.symm; omega)).trans (h.block j hj hne)⟩
structure RgAt (w : World) (q : Nat) (r : Rg) : Prop where
 c0 : w.cell? ⟨q, 0, none⟩ = some (.int .i64 r.ep)
 c1 : w.cell? ⟨q, 1, none⟩ = some (.int .i64 r.ow)
 c2 : w.cell? ⟨q, 2, none⟩ = some (.int .i64 r.pa)
theorem RgAt.keep {w w' : World} {q : Nat} {r : Rg} (h : RgAt w q r) (k : w'.heap[q]? = w.heap[q]?) : RgAt w' q r :=
 ⟨(World.cell?_of_block (a := ⟨q, 0, none⟩) k).trans h.c0, (World.cell?_of_block (a := ⟨q, 1, none⟩) k).trans h.c1, (World.cell?_of_block (a := ⟨q, 2, none⟩) k).trans h.c2⟩
theorem RgAt.below {w w' : World} {q n : Nat} {r : Rg} (h : RgAt w q r) (k : Below n w w') (hq : q < n) : RgAt w' q r := h.keep (k.block q hq)
theorem RgAt.lt {w : World} {q : Nat} {r : Rg} (h : RgAt w q r) : q < w.heap.size := World.block_lt_of_cell? w _ h.c0
theorem RgAt.new (w : World) (t : TypeId) (r : Rg) : RgAt (w.alloc (Obj.cells #[.int .i64 r.ep, .int .i64 r.ow, .int .i64 r.pa] t)) w.heap.size r := by
 refine ⟨?_, ?_, ?_⟩ <;> simp [go_sem]
structure RgBox (w : World) (q : Nat) (r : Rg) : Prop where
 at_ : RgAt w q r
 fr : ∀ i, w.frozen? ⟨q, i, none⟩ = false
theorem RgBox.keep {w w' : World} {q : Nat} {r : Rg} (h : RgBox w q r) (k : w'.heap[q]? = w.heap[q]?) : RgBox w' q r :=
 ⟨h.at_.keep k, fun i => (World.frozen?_of_block (a := ⟨q, i, none⟩) k).trans (h.fr i)⟩
theorem RgBox.below {w w' : World} {q n : Nat} {r : Rg} (h : RgBox w q r) (k : Below n w w') (hq : q < n) : RgBox w' q r := h.keep (k.block q hq)
theorem RgBox.lt {w : World} {q : Nat} {r : Rg} (h : RgBox w q r) : q < w.heap.size := h.at_.lt
theorem RgBox.put {w : World} {q : Nat} {r : Rg} (h : RgBox w q r) (r' : Rg) : RgBox (((w.setCell ⟨q, 0, none⟩ (.int .i64 r'.ep)).setCell ⟨q, 1, none⟩ (.int .i64 r'.ow)).setCell ⟨q, 2, none⟩ (.int .i64 r'.pa)) q r' := by
 obtain ⟨⟨h0, h1, h2⟩, hf⟩ := h
 have h0 : (w.setCell ⟨q, 0, none⟩ (.int .i64 r'.ep)).cell? ⟨q, 0, none⟩ = some (.int .i64 r'.ep) := pset_same h0
 have h1 : (w.setCell ⟨q, 0, none⟩ (.int .i64 r'.ep)).cell? ⟨q, 1, none⟩ = _ := (pset_else (by decide)).trans h1
 have h2 : (w.setCell ⟨q, 0, none⟩ (.int .i64 r'.ep)).cell? ⟨q, 2, none⟩ = _ := (pset_else (by decide)).trans h2
 have h0 : ((w.setCell ⟨q, 0, none⟩ (.int .i64 r'.ep)).setCell ⟨q, 1, none⟩ (.int .i64 r'.ow)).cell? ⟨q, 0, none⟩ = _ := (pset_else (by decide)).trans h0
 have h1 : ((w.setCell ⟨q, 0, none⟩ (.int .i64 r'.ep)).setCell ⟨q, 1, none⟩ (.int .i64 r'.ow)).cell? ⟨q, 1, none⟩ = some (.int .i64 r'.ow) := pset_same h1
 have h2 : ((w.setCell ⟨q, 0, none⟩ (.int .i64 r'.ep)).setCell ⟨q, 1, none⟩ (.int .i64 r'.ow)).cell? ⟨q, 2, none⟩ = _ := (pset_else (by decide)).trans h2
 refine ⟨⟨(pset_else (by decide)).trans h0, (pset_else (by decide)).trans h1, pset_same h2⟩, fun i => ?_⟩
 rw [World.frozen?_setCell, World.frozen?_setCell, World.frozen?_setCell]; exact hf i
theorem heap_put3 (w : World) (q k : Nat) (r' : Rg) (h : k ≠ q) : (((w.setCell ⟨q, 0, none⟩ (.int .i64 r'.ep)).setCell ⟨q, 1, none⟩ (.int .i64 r'.ow)).setCell ⟨q, 2, none⟩ (.int .i64 r'.pa)).heap[k]? = w.heap[k]? := by
 rw [Below.heap_setCell _ _ _ _ h, Below.heap_setCell _ _ _ _ h, Below.heap_setCell _ _ _ _ h]
theorem below_put3 {a w : World} {q n : Nat} (r' : Rg) (h : Below n a w) (hq : n ≤ q) : Below n a (((w.setCell ⟨q, 0, none⟩ (.int .i64 r'.ep)).setCell ⟨q, 1, none⟩ (.int .i64 r'.ow)).setCell ⟨q, 2, none⟩ (.int .i64 r'.pa)) :=
 ((h.setCell (p := ⟨q, 0, none⟩) hq _).setCell (p := ⟨q, 1, none⟩) hq _).setCell (p := ⟨q, 2, none⟩) hq _
end Go.Proofs.Ytnpiljegdiconaa
namespace Go.Proofs.Ytnpiljegdiconaa
open Go.ChangeShapes Go.WideShapes Go.ChangeAt Go.RowKit
open Go.ChangeMaps (open_string shut_string)
set_option linter.unusedVariables false
set_option maxRecDepth 100000
end Go.Proofs.Ytnpiljegdiconaa
