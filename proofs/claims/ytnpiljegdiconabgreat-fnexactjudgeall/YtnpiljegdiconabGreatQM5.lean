import Derived.Lib.SliceRun
import Derived.Test.YtnpiljegdiconabGreatQM6
namespace Go.Proofs.YtnpiljegdiconabGreat
open Go.ChangeShapes Go.WideShapes Go.ChangeAt Go.RowKit
open Go.ChangeMaps (open_string shut_string)
set_option linter.unusedVariables false
set_option maxRecDepth 100000
set_option maxHeartbeats 1000000 in
theorem cloneP (ad : Option Addr) (cap : Nat) (L : List Pt) (w : World) (hv : FView ptEnc w ad L) (hl : L.length ≤ 1048576) :
  Calls Tryz.prog 114 #[.slice ad L.length cap] w fun e w' => ∃ ad' cap', e = .returned (.slice ad' L.length cap') ∧ FOwn ptEnc 11 113 w.heap.size w' (.slice ad' L.length cap') L ∧ Below w.heap.size w w' := by
 obtain ⟨i1, hj, hy0, hy1, hy2⟩ := info_parts ptInfo
 cases ad with
 | none =>
  obtain rfl := hv.none_nil
  have hEq : ∀ (y : World) (c : Nat), (binOp .eql 67 (.slice none 0 c) (.slice none 0 0)).run Tryz.prog y = .ok (.bool true) y := fun y c => Go.Lib.run_eql_slice_nil y 67 113 none 0 c 0 0 Tryz.underlying67
  simp only [List.length_nil]
  go_enter Tryz.func114, Tryz.ntmps114
  go_wp2
  go_ret
  exact ⟨_, _, rfl, FOwn.nil, Below.refl _ _⟩
 | some a =>
  have hB := hv.lt ptEnc_len (by omega)
  have B0 := below_new (w := w) (Obj.cells #[] 113)
  have hv1 : FView ptEnc (w.alloc (Obj.cells #[] 113)) (some a) L := hv.below B0 hB
  have hEq : ∀ (y : World), (binOp .eql 67 (.slice (some a) L.length cap) (.slice none 0 0)).run Tryz.prog y = .ok (.bool false) y := fun y => Go.Lib.run_eql_slice_nil y 67 113 (some a) L.length cap 0 0 Tryz.underlying67
  go_enter Tryz.func114, Tryz.ntmps114
  go_wp2_with (first | (at_builtin; refine fappL ptEnc_len ptEnc_ones rfl _ _ 67 rfl w.heap.size 113 i1 (.agg #[.bool false, .bool false, .int .i64 0, .int .i64 0, .int .i64 0, .int .i64 0, .int .i64 0, .int .i64 0, .int .i64 0, .int .i64 0, .bool false]) 80 Tryz.underlying67 hj hy0 hy1 hy2 rfl (by decide) (by decide) _ ([] : List Pt) rfl (FOwn.empty w) (some a) cap L rfl (fun e => by cases e) hv1 ?z0 ?z1 ?_) | go_in)
  case z0 => simp; omega
  case z1 => simp
  intro vZ wZ hownZ hgrowZ _
  have BZ : Below w.heap.size w wZ := B0.grown hgrowZ (by simp) (fun j e => ((FOwn.empty w : FOwn ptEnc 11 113 _ _ _ _).lt j e).1)
  replace hownZ : FOwn ptEnc 11 113 w.heap.size wZ vZ L := hownZ
  obtain ⟨adZ, capZ, rfl⟩ := hownZ.open_
  clear hgrowZ B0 hv1
  go_wp2
  go_ret
  exact ⟨_, _, rfl, hownZ, BZ⟩
set_option maxHeartbeats 1000000 in
theorem copI (id : Int) (ad : Option Addr) (cap : Nat) (L : List Pt) (w : World) (hv : FView ptEnc w ad L) (hl : L.length ≤ 1048576) (hn : ad = none → cap = 0) :
  Calls Tryz.prog 93 #[.agg #[.int .i64 id, .slice ad L.length cap]] w fun e w' => ∃ ad' cap', e = .returned (.agg #[.int .i64 id, .slice ad' L.length cap']) ∧ FOwn ptEnc 11 113 w.heap.size w' (.slice ad' L.length cap') L ∧ Below w.heap.size w w' := by
 have hB := hv.lt ptEnc_len (by omega)
 obtain ⟨y, hy⟩ := mk_ ((w.alloc (Obj.cells #[.int .i64 id, .slice ad L.length cap] 69)).alloc (Obj.cells #[.int .i64 0, .slice none 0 0] 69))
 have B0 : Below w.heap.size w y := by rw [hy]; exact ((Below.refl _ _).alloc (Nat.le_refl _) _).alloc (by simp) _
 have A0 : BrAt y w.heap.size id (.slice ad L.length cap) := by rw [hy]; constructor <;> simp [go_sem]
 have A1 : BBox y (w.heap.size + 1) 0 (.slice none 0 0) := by rw [hy]; refine ⟨?_, fun i => ?_⟩; constructor <;> simp [go_sem]; simp [go_sem]
 have S0 := A1.lt
 have hv1 := hv.below B0 hB
 obtain ⟨i1, hj, hy0, hy1, hy2⟩ := info_parts ptInfo
 go_enter Tryz.func93, Tryz.ntmps93
 go_wp2
 rw [← hy]
 clear hy
 refine wp_region_held (S := fun Y => Below (w.heap.size + 1) y Y) (by kernel_rfl) ?_
 change wpAnyH _ _ _ _ _ _ _ _ (World.drew _)
 have hb0 : Below y.heap.size y y.drew := (Below.refl _ _).drew
 obtain ⟨u0, hy0'⟩ : ∃ y_, y_ = y.drew := ⟨_, rfl⟩
 rw [← hy0'] at hb0 ⊢
 clear hy0'
 have hc0 : Below (w.heap.size + 1) y u0 := hb0.mono (by omega)
 refine tw 0 3 (.pointer (some ⟨w.heap.size, 0, none⟩)) ?_
 refine tw 1 4 (.int .i64 id) ?_ (hy := by intro Y hSw; obtain ⟨X0, X1⟩ := A0.below hSw (by omega); go_simp)
 refine tw 2 5 (.pointer (some ⟨w.heap.size, 1, none⟩)) ?_
 refine tw 3 6 (.slice ad L.length cap) ?_ (hy := by intro Y hSw; obtain ⟨X0, X1⟩ := A0.below hSw (by omega); go_simp)
 refine wpAnyH_all (rs := [4]) (by kernel_rfl) (by simp) ?_
 intro i hi; obtain rfl : i = 4 := by simpa using hi
 refine wpOp_step rfl (fun K hK => ?_)
 rw [if_pos (by kernel_rfl)]
 go_simp
 go_at_call 114
 refine (cloneP ad cap L u0 (hv1.below hb0 (hv1.lt ptEnc_len (by omega))) hl).mono ?_
 rintro e u1 ⟨adN, capN, rfl, oN, kq⟩
 have z0 := hb0.size
 have hb1 : Below y.heap.size y u1 := hb0.trans (kq.mono hb0.size)
 have hc1 : Below (w.heap.size + 1) y u1 := hb1.mono (by omega)
 refine hK _ _ ⟨hc1, ?_⟩
 clear hK K hi
 refine tw 5 8 (.agg #[.int .i64 id, .slice adN L.length capN]) ?_
 refine wpAnyH_all (rs := [6]) (by kernel_rfl) (by simp) ?_
 intro i hi; obtain rfl : i = 6 := by simpa using hi
 refine wpOp_step rfl (fun K hK => ?_)
 rw [if_pos (by kernel_rfl)]
 have A2 := A1.below hb1 S0
 have A3 := A2
 obtain ⟨⟨t0, t1⟩, tf⟩ := A2
 go_simp
 clear t0 t1 tf
 obtain ⟨uf, hu⟩ := mk_ ((u1.setCell ⟨w.heap.size + 1, 0, none⟩ (.int .i64 id)).setCell ⟨w.heap.size + 1, 1, none⟩ (.slice adN L.length capN))
 have A4 : BBox uf (w.heap.size + 1) id (.slice adN L.length capN) := by rw [hu]; exact A3.put _ _
 have OF : FOwn ptEnc 11 113 w.heap.size uf (.slice adN L.length capN) L := (oN.base (by omega)).keep fun g e => by
  have := oN.lt g e
  rw [hu, Below.heap_setCell _ _ _ _ (by show g ≠ w.heap.size + 1; omega), Below.heap_setCell _ _ _ _ (by show g ≠ w.heap.size + 1; omega)]
 have BF : Below w.heap.size w uf := by rw [hu]; exact ((B0.trans (hb1.mono B0.size)).setCell (by show _ ≤ w.heap.size + 1; omega) _).setCell (by show _ ≤ w.heap.size + 1; omega) _
 have hbf : Below (w.heap.size + 1) y uf := by rw [hu]; exact (hc1.setCell (Nat.le_refl (w.heap.size + 1)) _).setCell (Nat.le_refl (w.heap.size + 1)) _
 rw [← hu]
 clear hu
 refine hK _ _ ⟨hbf, ?_⟩
 clear hK K hi
 refine wpAnyH_done (by kernel_rfl) ?_ _
 obtain ⟨t0, t1⟩ := A4.at_
 go_wp2
 refine bodyPost_ret (v := .agg #[.int .i64 id, .slice adN L.length capN]) (by simp [results, Tryz.results93, go_sem, *]) rfl ⟨_, _, rfl, OF, BF⟩
set_option maxHeartbeats 1000000 in
theorem copS (id : Int) (ad : Option Addr) (cap : Nat) (L : List Pt) (w : World) (hv : FView ptEnc w ad L) (hl : L.length ≤ 1048576) (hn : ad = none → cap = 0) :
  Calls Tryz.prog 86 #[.agg #[.int .i64 id, .slice ad L.length cap]] w fun e w' => ∃ ad' cap', e = .returned (.agg #[.int .i64 id, .slice ad' L.length cap']) ∧ FOwn ptEnc 11 113 w.heap.size w' (.slice ad' L.length cap') L ∧ Below w.heap.size w w' := by
 have hB := hv.lt ptEnc_len (by omega)
 obtain ⟨y, hy⟩ := mk_ ((w.alloc (Obj.cells #[.int .i64 id, .slice ad L.length cap] 69)).alloc (Obj.cells #[.int .i64 0, .slice none 0 0] 69))
 have B0 : Below w.heap.size w y := by rw [hy]; exact ((Below.refl _ _).alloc (Nat.le_refl _) _).alloc (by simp) _
 have A0 : BrAt y w.heap.size id (.slice ad L.length cap) := by rw [hy]; constructor <;> simp [go_sem]
 have A1 : BBox y (w.heap.size + 1) 0 (.slice none 0 0) := by rw [hy]; refine ⟨?_, fun i => ?_⟩; constructor <;> simp [go_sem]; simp [go_sem]
 have S0 := A1.lt
 have hv1 := hv.below B0 hB
 obtain ⟨i1, hj, hy0, hy1, hy2⟩ := info_parts ptInfo
 go_enter Tryz.func86, Tryz.ntmps86
 go_wp2
 rw [← hy]
 clear hy
 refine wp_region_held (S := fun Y => Below (w.heap.size + 1) y Y) (by kernel_rfl) ?_
 change wpAnyH _ _ _ _ _ _ _ _ (World.drew _)
 have hb0 : Below y.heap.size y y.drew := (Below.refl _ _).drew
 obtain ⟨u0, hy0'⟩ : ∃ y_, y_ = y.drew := ⟨_, rfl⟩
 rw [← hy0'] at hb0 ⊢
 clear hy0'
 have hc0 : Below (w.heap.size + 1) y u0 := hb0.mono (by omega)
 refine tw 0 3 (.pointer (some ⟨w.heap.size, 0, none⟩)) ?_
 refine tw 1 4 (.int .i64 id) ?_ (hy := by intro Y hSw; obtain ⟨X0, X1⟩ := A0.below hSw (by omega); go_simp)
 refine tw 3 6 (.pointer (some ⟨w.heap.size, 1, none⟩)) ?_
 refine tw 4 7 (.slice ad L.length cap) ?_ (hy := by intro Y hSw; obtain ⟨X0, X1⟩ := A0.below hSw (by omega); go_simp)
 refine wpAnyH_all (rs := [2]) (by kernel_rfl) (by simp) ?_
 intro i hi; obtain rfl : i = 2 := by simpa using hi
 refine wpOp_step rfl (fun K hK => ?_)
 rw [if_pos (by kernel_rfl)]
 go_simp
 obtain ⟨u1, hu1⟩ := mk_ (u0.alloc (Obj.cells #[] 113))
 have oE : FOwn ptEnc 11 113 u0.heap.size u1 (.slice (some ⟨u0.heap.size, 0, none⟩) 0 0) ([] : List Pt) := by rw [hu1]; exact FOwn.empty u0
 have kq : Below u0.heap.size u0 u1 := by rw [hu1]; exact below_new _
 have z0 := hb0.size
 have hb1 : Below y.heap.size y u1 := hb0.trans (kq.mono hb0.size)
 have hc1 : Below (w.heap.size + 1) y u1 := hb1.mono (by omega)
 have z1 := kq.size
 rw [← hu1]
 clear hu1
 generalize u0.heap.size = E at oE kq z0 z1 ⊢
 refine hK _ _ ⟨hc1, ?_⟩
 clear hK K hi
 refine wpAnyH_all (rs := [5]) (by kernel_rfl) (by simp) ?_
 intro i hi; obtain rfl : i = 5 := by simpa using hi
 refine wpOp_step rfl (fun K hK => ?_)
 rw [if_pos (by kernel_rfl)]
 refine fapp ptEnc_len ptEnc_ones 8 _ _ 67 rfl rfl E 113 i1 (.agg #[.bool false, .bool false, .int .i64 0, .int .i64 0, .int .i64 0, .int .i64 0, .int .i64 0, .int .i64 0, .int .i64 0, .int .i64 0, .bool false]) 80 Tryz.underlying67 hj hy0 hy1 hy2 rfl (by decide) (by decide) (.slice (some ⟨E, 0, none⟩) 0 0) ([] : List Pt) rfl oE ad cap L rfl hn (hv1.below hb1 (hv1.lt ptEnc_len (by omega))) (by simp; omega) z1 ?_
 intro vN u2 oN gN _
 replace oN : FOwn ptEnc 11 113 E u2 vN L := oN
 have hb2 : Below y.heap.size y u2 := hb1.grown gN hb1.size (fun j e => Nat.le_trans z0 (oE.lt j e).1)
 have hc2 : Below (w.heap.size + 1) y u2 := hb2.mono (by omega)
 obtain ⟨adN, capN, rfl⟩ := oN.open_
 clear gN
 simp only [List.set_cons_zero, List.set_cons_succ]
 refine hK _ _ ⟨hc2, ?_⟩
 clear hK K hi
 refine tw 6 9 (.agg #[.int .i64 id, .slice adN L.length capN]) ?_
 refine wpAnyH_all (rs := [7]) (by kernel_rfl) (by simp) ?_
 intro i hi; obtain rfl : i = 7 := by simpa using hi
 refine wpOp_step rfl (fun K hK => ?_)
 rw [if_pos (by kernel_rfl)]
 have A2 := A1.below hb2 S0
 have A3 := A2
 obtain ⟨⟨t0, t1⟩, tf⟩ := A2
 go_simp
 clear t0 t1 tf
 obtain ⟨uf, hu⟩ := mk_ ((u2.setCell ⟨w.heap.size + 1, 0, none⟩ (.int .i64 id)).setCell ⟨w.heap.size + 1, 1, none⟩ (.slice adN L.length capN))
 have A4 : BBox uf (w.heap.size + 1) id (.slice adN L.length capN) := by rw [hu]; exact A3.put _ _
 have OF : FOwn ptEnc 11 113 w.heap.size uf (.slice adN L.length capN) L := (oN.base (by omega)).keep fun g e => by
  have := oN.lt g e
  rw [hu, Below.heap_setCell _ _ _ _ (by show g ≠ w.heap.size + 1; omega), Below.heap_setCell _ _ _ _ (by show g ≠ w.heap.size + 1; omega)]
 have BF : Below w.heap.size w uf := by rw [hu]; exact ((B0.trans (hb2.mono B0.size)).setCell (by show _ ≤ w.heap.size + 1; omega) _).setCell (by show _ ≤ w.heap.size + 1; omega) _
 have hbf : Below (w.heap.size + 1) y uf := by rw [hu]; exact (hc2.setCell (Nat.le_refl (w.heap.size + 1)) _).setCell (Nat.le_refl (w.heap.size + 1)) _
 rw [← hu]
 clear hu
 refine hK _ _ ⟨hbf, ?_⟩
 clear hK K hi
 refine wpAnyH_done (by kernel_rfl) ?_ _
 obtain ⟨t0, t1⟩ := A4.at_
 go_wp2
 refine bodyPost_ret (v := .agg #[.int .i64 id, .slice adN L.length capN]) (by simp [results, Tryz.results86, go_sem, *]) rfl ⟨_, _, rfl, OF, BF⟩
set_option maxHeartbeats 2000000 in
theorem toOuI (x : Ik) (w : World) : Calls Tryz.prog 51 #[.agg #[.int .i64 x.k, .int .i64 x.q, .int .i64 x.r, .int .i64 x.c, .int .i64 x.b, .int .i64 x.p, .int .i64 x.h, .bool x.up]] w fun e w' => e = .returned (.agg #[.int .i64 x.k, .int .i64 x.q, .int .i64 x.r, .int .i64 x.c, .int .i64 x.b, .int .i64 x.p, .int .i64 x.h, .bool x.up]) ∧ Below w.heap.size w w' := by
 obtain ⟨w0, hw0⟩ := mk_ (((w.alloc (Obj.cells #[.int .i64 x.k, .int .i64 x.q, .int .i64 x.r, .int .i64 x.c, .int .i64 x.b, .int .i64 x.p, .int .i64 x.h, .bool x.up] 95)).alloc (Obj.cells #[.int .i64 0, .int .i64 0, .int .i64 0, .int .i64 0, .int .i64 0, .int .i64 0, .int .i64 0, .bool false] 92)).alloc (Obj.cells #[.int .i64 x.k, .int .i64 x.q, .int .i64 0, .int .i64 0, .int .i64 0, .int .i64 0, .int .i64 0, .bool false] 92))
 have b0 : Below w.heap.size w w0 := by rw [hw0]; exact (((Below.refl _ _).alloc (Nat.le_refl _) _).alloc (by simp) _).alloc (by simp; omega) _
 have P0 : InAt w0 w.heap.size x := by rw [hw0]; constructor <;> simp [go_sem]
 have Q0 : InAt w0 (w.heap.size + 1) ⟨0, 0, 0, 0, 0, 0, 0, false⟩ := by rw [hw0]; constructor <;> simp [go_sem]
 have R0 : InAt w0 (w.heap.size + 1 + 1) ⟨x.k, x.q, 0, 0, 0, 0, 0, false⟩ := by rw [hw0]; constructor <;> simp [go_sem]
 have QF : ∀ i, w0.frozen? ⟨w.heap.size + 1, i, none⟩ = false := fun i => by rw [hw0]; simp [go_sem]
 have RF : ∀ i, w0.frozen? ⟨w.heap.size + 1 + 1, i, none⟩ = false := fun i => by rw [hw0]; simp [go_sem]
 have S0 := R0.lt
 go_enter Tryz.func51, Tryz.ntmps51
 go_wp2_with fail
 go_at_call 75
 rw [← hw0]
 clear hw0
 refine (toV x.r x.c x.b x.p w0).mono ?_
 rintro e w1 ⟨rfl, k1⟩
 have b1 := b0.trans (k1.mono b0.size)
 obtain ⟨p0, p1, p2, p3, p4, p5, p6, p7⟩ := P0.below k1 (by omega)
 obtain ⟨r0, r1, r2, r3, r4, r5, r6, r7⟩ := R0.below k1 (by omega)
 obtain ⟨q0, q1, q2, q3, q4, q5, q6, q7⟩ := Q0.below k1 (by omega)
 have qf0 : w1.frozen? ⟨w.heap.size + 1, 0, none⟩ = false := (World.frozen?_of_block (a := ⟨w.heap.size + 1, 0, none⟩) (k1.block (w.heap.size + 1) (by omega))).trans (QF 0)
 have rf0 : w1.frozen? ⟨w.heap.size + 1 + 1, 0, none⟩ = false := (World.frozen?_of_block (a := ⟨w.heap.size + 1 + 1, 0, none⟩) (k1.block (w.heap.size + 1 + 1) (by omega))).trans (RF 0)
 have qf1 : w1.frozen? ⟨w.heap.size + 1, 1, none⟩ = false := (World.frozen?_of_block (a := ⟨w.heap.size + 1, 1, none⟩) (k1.block (w.heap.size + 1) (by omega))).trans (QF 1)
 have rf1 : w1.frozen? ⟨w.heap.size + 1 + 1, 1, none⟩ = false := (World.frozen?_of_block (a := ⟨w.heap.size + 1 + 1, 1, none⟩) (k1.block (w.heap.size + 1 + 1) (by omega))).trans (RF 1)
 have qf2 : w1.frozen? ⟨w.heap.size + 1, 2, none⟩ = false := (World.frozen?_of_block (a := ⟨w.heap.size + 1, 2, none⟩) (k1.block (w.heap.size + 1) (by omega))).trans (QF 2)
 have rf2 : w1.frozen? ⟨w.heap.size + 1 + 1, 2, none⟩ = false := (World.frozen?_of_block (a := ⟨w.heap.size + 1 + 1, 2, none⟩) (k1.block (w.heap.size + 1 + 1) (by omega))).trans (RF 2)
 have qf3 : w1.frozen? ⟨w.heap.size + 1, 3, none⟩ = false := (World.frozen?_of_block (a := ⟨w.heap.size + 1, 3, none⟩) (k1.block (w.heap.size + 1) (by omega))).trans (QF 3)
 have rf3 : w1.frozen? ⟨w.heap.size + 1 + 1, 3, none⟩ = false := (World.frozen?_of_block (a := ⟨w.heap.size + 1 + 1, 3, none⟩) (k1.block (w.heap.size + 1 + 1) (by omega))).trans (RF 3)
 have qf4 : w1.frozen? ⟨w.heap.size + 1, 4, none⟩ = false := (World.frozen?_of_block (a := ⟨w.heap.size + 1, 4, none⟩) (k1.block (w.heap.size + 1) (by omega))).trans (QF 4)
 have rf4 : w1.frozen? ⟨w.heap.size + 1 + 1, 4, none⟩ = false := (World.frozen?_of_block (a := ⟨w.heap.size + 1 + 1, 4, none⟩) (k1.block (w.heap.size + 1 + 1) (by omega))).trans (RF 4)
 have qf5 : w1.frozen? ⟨w.heap.size + 1, 5, none⟩ = false := (World.frozen?_of_block (a := ⟨w.heap.size + 1, 5, none⟩) (k1.block (w.heap.size + 1) (by omega))).trans (QF 5)
 have rf5 : w1.frozen? ⟨w.heap.size + 1 + 1, 5, none⟩ = false := (World.frozen?_of_block (a := ⟨w.heap.size + 1 + 1, 5, none⟩) (k1.block (w.heap.size + 1 + 1) (by omega))).trans (RF 5)
 have qf6 : w1.frozen? ⟨w.heap.size + 1, 6, none⟩ = false := (World.frozen?_of_block (a := ⟨w.heap.size + 1, 6, none⟩) (k1.block (w.heap.size + 1) (by omega))).trans (QF 6)
 have rf6 : w1.frozen? ⟨w.heap.size + 1 + 1, 6, none⟩ = false := (World.frozen?_of_block (a := ⟨w.heap.size + 1 + 1, 6, none⟩) (k1.block (w.heap.size + 1 + 1) (by omega))).trans (RF 6)
 have qf7 : w1.frozen? ⟨w.heap.size + 1, 7, none⟩ = false := (World.frozen?_of_block (a := ⟨w.heap.size + 1, 7, none⟩) (k1.block (w.heap.size + 1) (by omega))).trans (QF 7)
 have rf7 : w1.frozen? ⟨w.heap.size + 1 + 1, 7, none⟩ = false := (World.frozen?_of_block (a := ⟨w.heap.size + 1 + 1, 7, none⟩) (k1.block (w.heap.size + 1 + 1) (by omega))).trans (RF 7)
 clear P0 R0 Q0 QF RF k1 b0
 go_wp2
 refine bodyPost_ret (v := .agg #[.int .i64 x.k, .int .i64 x.q, .int .i64 x.r, .int .i64 x.c, .int .i64 x.b, .int .i64 x.p, .int .i64 x.h, .bool x.up]) (by simp [results, Tryz.results51, go_sem, *]) rfl ⟨rfl, ?_⟩
 repeat' (first | with_reducible exact b1 | refine Below.setCell ?_ (by first | (show _ ≤ w.heap.size + 1; omega) | (show _ ≤ w.heap.size + 1 + 1; omega)) _)
theorem toOu (x : Ou) (w : World) : Calls Tryz.prog 51 #[.agg #[.int .i64 x.k, .int .i64 x.pt, .int .i64 x.r, .int .i64 x.c, .int .i64 x.b, .int .i64 x.p, .int .i64 x.h, .bool x.on]] w fun e w' => e = .returned (.agg #[.int .i64 x.k, .int .i64 x.pt, .int .i64 x.r, .int .i64 x.c, .int .i64 x.b, .int .i64 x.p, .int .i64 x.h, .bool x.on]) ∧ Below w.heap.size w w' := toOuI ⟨x.k, x.pt, x.r, x.c, x.b, x.p, x.h, x.on⟩ w
set_option maxRecDepth 100000 in
theorem ouRow_open {H : Type} {enc : TypeId × Value → H} {w : World} {n0 : Nat} {v : Value} {x : DataW H × List MemPlace} (hn : DataW.trod enc Tryz.prog w 0 (fun _ => true) true n0 28 [v] = some x) :
  ∃ ad cap L, v = .slice ad L.length cap ∧ L.length ≤ maxLen ∧ FView ouEnc w ad L ∧ (ad = none → cap = 0) := by
 have hs := Go.Deep.open_slice Tryz.underlying28 hn
 have hcell : ∀ x, [v] = [x] → v = x := fun x h => by simpa using h
 rcases hs with ⟨hcs, _⟩ | ⟨a, len, cap, m, n, D, Pl, hcs, _, hl, hm, hmm, _, hx⟩
 ·
  exact ⟨none, 0, [], hcell _ hcs, by simp, FView.nil, fun _ => rfl⟩
 ·
  simp at hmm
  subst hmm
  have each : ∀ i, i < m → ∃ q : Ou, w.cell? (a.add (i * 8)) = some (.int .i64 q.k) ∧ w.cell? (a.add (i * 8 + 1)) = some (.int .i64 q.pt) ∧ w.cell? (a.add (i * 8 + 2)) = some (.int .i64 q.r) ∧ w.cell? (a.add (i * 8 + 3)) = some (.int .i64 q.c) ∧ w.cell? (a.add (i * 8 + 4)) = some (.int .i64 q.b) ∧ w.cell? (a.add (i * 8 + 5)) = some (.int .i64 q.p) ∧ w.cell? (a.add (i * 8 + 6)) = some (.int .i64 q.h) ∧ w.cell? (a.add (i * 8 + 7)) = some (.bool q.on) := by
   intro i hi
   obtain ⟨cs', h1, h2⟩ := hx i hi
   rw [(by kernel_rfl : Tryz.prog.cellsOf 95 = 8)] at h1
   obtain ⟨_, hlen, hc⟩ := World.cells?_some h1
   obtain ⟨xs, k, hk, hxy, _, hxl, hf⟩ := DataW.trod_struct Tryz.underlying95 h2
   match xs, hxl, cs', hlen with
   | [y0, y1, y2, y3, y4], _, [c0, c1, c2, c3, c4, c5, c6, c7], _ =>
    have g0 : DataW.trod enc Tryz.prog w 0 (fun _ => true) true k 3 ((List.drop 0 [c0, c1, c2, c3, c4, c5, c6, c7]).take (Tryz.prog.cellsOf 3)) = some y0 := hf 0 _ rfl
    rw [(by kernel_rfl : Tryz.prog.cellsOf 3 = 1)] at g0
    have g1 : DataW.trod enc Tryz.prog w 0 (fun _ => true) true k 3 ((List.drop 1 [c0, c1, c2, c3, c4, c5, c6, c7]).take (Tryz.prog.cellsOf 3)) = some y1 := hf 1 _ rfl
    rw [(by kernel_rfl : Tryz.prog.cellsOf 3 = 1)] at g1
    have g2 : DataW.trod enc Tryz.prog w 0 (fun _ => true) true k 85 ((List.drop 2 [c0, c1, c2, c3, c4, c5, c6, c7]).take (Tryz.prog.cellsOf 85)) = some y2 := hf 2 _ rfl
    rw [(by kernel_rfl : Tryz.prog.cellsOf 85 = 4)] at g2
    have g3 : DataW.trod enc Tryz.prog w 0 (fun _ => true) true k 3 ((List.drop 6 [c0, c1, c2, c3, c4, c5, c6, c7]).take (Tryz.prog.cellsOf 3)) = some y3 := hf 3 _ rfl
    rw [(by kernel_rfl : Tryz.prog.cellsOf 3 = 1)] at g3
    have g4 : DataW.trod enc Tryz.prog w 0 (fun _ => true) true k 4 ((List.drop 7 [c0, c1, c2, c3, c4, c5, c6, c7]).take (Tryz.prog.cellsOf 4)) = some y4 := hf 4 _ rfl
    rw [(by kernel_rfl : Tryz.prog.cellsOf 4 = 1)] at g4
    obtain ⟨us2_, k2_, hk2_, hxy2_, _, hul2_, hg2_⟩ := DataW.trod_struct Tryz.underlying85 g2
    match us2_, hul2_ with
    | [u2_0, u2_1, u2_2, u2_3], _ =>
     have g2_0 : DataW.trod enc Tryz.prog w 0 (fun _ => true) true k2_ 3 ((List.drop 0 [c2, c3, c4, c5]).take (Tryz.prog.cellsOf 3)) = some u2_0 := hg2_ 0 _ rfl
     rw [(by kernel_rfl : Tryz.prog.cellsOf 3 = 1)] at g2_0
     have g2_1 : DataW.trod enc Tryz.prog w 0 (fun _ => true) true k2_ 3 ((List.drop 1 [c2, c3, c4, c5]).take (Tryz.prog.cellsOf 3)) = some u2_1 := hg2_ 1 _ rfl
     rw [(by kernel_rfl : Tryz.prog.cellsOf 3 = 1)] at g2_1
     have g2_2 : DataW.trod enc Tryz.prog w 0 (fun _ => true) true k2_ 3 ((List.drop 2 [c2, c3, c4, c5]).take (Tryz.prog.cellsOf 3)) = some u2_2 := hg2_ 2 _ rfl
     rw [(by kernel_rfl : Tryz.prog.cellsOf 3 = 1)] at g2_2
     have g2_3 : DataW.trod enc Tryz.prog w 0 (fun _ => true) true k2_ 3 ((List.drop 3 [c2, c3, c4, c5]).take (Tryz.prog.cellsOf 3)) = some u2_3 := hg2_ 3 _ rfl
     rw [(by kernel_rfl : Tryz.prog.cellsOf 3 = 1)] at g2_3
     obtain ⟨z0, e0, _, _⟩ := DataW.trod_int Tryz.underlying3 g0
     obtain ⟨z1, e1, _, _⟩ := DataW.trod_int Tryz.underlying3 g1
     obtain ⟨z2, e2, _, _⟩ := DataW.trod_int Tryz.underlying3 g2_0
     obtain ⟨z3, e3, _, _⟩ := DataW.trod_int Tryz.underlying3 g2_1
     obtain ⟨z4, e4, _, _⟩ := DataW.trod_int Tryz.underlying3 g2_2
     obtain ⟨z5, e5, _, _⟩ := DataW.trod_int Tryz.underlying3 g2_3
     obtain ⟨z6, e6, _, _⟩ := DataW.trod_int Tryz.underlying3 g3
     obtain ⟨z7, e7, _⟩ := DataW.trod_bool Tryz.underlying4 g4
     simp at e0 e1 e2 e3 e4 e5 e6 e7
     subst e0 e1 e2 e3 e4 e5 e6 e7
     have k_0 := hc 0 (by omega)
     have k_1 := hc 1 (by omega)
     have k_2 := hc 2 (by omega)
     have k_3 := hc 3 (by omega)
     have k_4 := hc 4 (by omega)
     have k_5 := hc 5 (by omega)
     have k_6 := hc 6 (by omega)
     have k_7 := hc 7 (by omega)
     rw [Go.Deep.add_add] at k_0 k_1 k_2 k_3 k_4 k_5 k_6 k_7
     exact ⟨⟨z0, z1, z2, z3, z4, z5, z6, z7⟩, by simpa using k_0, by simpa using k_1, by simpa using k_2, by simpa using k_3, by simpa using k_4, by simpa using k_5, by simpa using k_6, by simpa using k_7⟩
  haveI : Inhabited Ou := ⟨Ou.nil⟩
  obtain ⟨q, hq⟩ := Go.Deep.choose_lt each
  refine ⟨some a, m, (List.range len).map q, by simpa using hcell _ hcs, by simpa using Nat.le_trans hl hm, fun hp => ?_, fun e => by cases e⟩
  simp at hp
  obtain ⟨b, off, spot⟩ := a
  have hspot : spot = none := by simpa [Addr.add] using World.cell?_spot (hq 0 (by omega)).1
  subst hspot
  refine ⟨b, off, rfl, fun j v hv => ?_⟩
  have hjl : j < len * 8 := by
   have := (List.getElem?_eq_some_iff.1 hv).1
   rw [fcells_len ouEnc_len] at this
   simpa using this
  have hi : j / 8 < len := by omega
  have hr : j % 8 < 8 := Nat.mod_lt _ (by omega)
  have e : j = j / 8 * 8 + j % 8 := by omega
  rw [e, fcells_at ouEnc_len Ou.nil _ _ _ (by simpa using hi) hr, show ((List.range len).map q).getD (j / 8) Ou.nil = q (j / 8) by simp [List.getD, hi]] at hv
  obtain ⟨k0, k1, k2, k3, k4, k5, k6, k7⟩ := hq (j / 8) (by omega)
  simp only [add_plain] at k0 k1 k2 k3 k4 k5 k6 k7
  rw [e]
  generalize j % 8 = r at hv hr
  have hcase : r = 0 ∨ r = 1 ∨ r = 2 ∨ r = 3 ∨ r = 4 ∨ r = 5 ∨ r = 6 ∨ r = 7 := by omega
  rcases hcase with rfl | rfl | rfl | rfl | rfl | rfl | rfl | rfl
  ·
   cases hv; simpa [Nat.add_assoc] using k0
  ·
   cases hv; simpa [Nat.add_assoc] using k1
  ·
   cases hv; simpa [Nat.add_assoc] using k2
  ·
   cases hv; simpa [Nat.add_assoc] using k3
  ·
   cases hv; simpa [Nat.add_assoc] using k4
  ·
   cases hv; simpa [Nat.add_assoc] using k5
  ·
   cases hv; simpa [Nat.add_assoc] using k6
  ·
   cases hv; simpa [Nat.add_assoc] using k7
theorem ouSz (ad : Option Addr) (len cap : Nat) (left : Int) (w : World) (h0 : 0 ≤ left) (h1 : left ≤ 1048576) (hm : len ≤ maxLen) :
  Calls Tryz.prog 16 #[.slice ad len cap, .int .i64 left] w fun e w' => e = .returned (.int .i64 (if (len : Int) ≤ left then left - len else -1)) ∧ w' = w := by
 unfold maxLen at hm
 by_cases h : (len : Int) ≤ left
 ·
  rw [if_pos h]
  have h2 : 0 ≤ left - (len : Int) := by omega
  go_enter Tryz.func16, Tryz.ntmps16
  go_wp2
  go_ret
  exact ⟨rfl, rfl⟩
 ·
  rw [if_neg h]
  have h2 : left - (len : Int) < 0 := by omega
  go_enter Tryz.func16, Tryz.ntmps16
  go_wp2
  go_ret
  exact ⟨rfl, rfl⟩
theorem ouInfo2 : (Tryz.prog.info? 92).map (fun i => (i.zero, i.size, i.bytes)) = some (some (.agg #[.int .i64 0, .int .i64 0, .int .i64 0, .int .i64 0, .int .i64 0, .int .i64 0, .int .i64 0, .bool false]), 8, 64) := by kernel_rfl
set_option maxHeartbeats 2000000 in
theorem ouToS (ad : Option Addr) (cap : Nat) (L : List Ou) (w : World) (hv : FView ouEnc w ad L) (hl : L.length ≤ 1048576) :
  Calls Tryz.prog 26 #[.slice ad L.length cap] w fun e w' => e = .returned (.slice (some ⟨w.heap.size, 0, none⟩) L.length L.length) ∧ FOwn ouEnc 8 92 w.heap.size w' (.slice (some ⟨w.heap.size, 0, none⟩) L.length L.length) L ∧ Below w.heap.size w w' := by
 obtain ⟨i0, hi, hz0, hz1, hz2⟩ := info_parts ouInfo2
 have hB := hv.lt ouEnc_len (by omega)
 go_enter Tryz.func26, Tryz.ntmps26
 go_wp2_with (first | (refine wpList_make_full _ rfl _ _ 37 rfl w.heap.size 92 i0 (.agg #[.int .i64 0, .int .i64 0, .int .i64 0, .int .i64 0, .int .i64 0, .int .i64 0, .int .i64 0, .bool false]) 8 Tryz.underlying37 hi hz0 hz1 .i64 .i64 _ _ L.length rfl rfl rfl rfl ?c1 ?c2 ?c3 ?_))
 case c1 => rw [hz2]; omega
 case c2 => unfold maxLen; omega
 case c3 => exact Nat.le_refl _
 intro w1 hown hgrow
 have F0 : FFill ouEnc 8 92 w.heap.size w1 w.heap.size L 0 := FFill.start hown
 have B0 : Below w.heap.size w w1 := (Below.refl _ _).grown hgrow (Nat.le_refl _) (by simp)
 clear hown hgrow
 go_wp2
 go_loopw [4] (fun i wr => ∃ k : Nat, k ≤ L.length ∧ i = .int .i64 k ∧ FFill ouEnc 8 92 w.heap.size wr w.heap.size L k ∧ Below w.heap.size w wr) (fun i _ => L.length - (intOf i).toNat)
 case atStart => exact ⟨0, Nat.zero_le _, rfl, F0, B0⟩
 case round =>
  obtain ⟨k, hk, rfl, F, B⟩ := hrel
  clear F0 B0
  by_cases hlt : k < L.length
  ·
   obtain ⟨b, off, rfl, _⟩ := hv (by omega)
   obtain ⟨h, hh⟩ : ∃ h, L.getD k Ou.nil = h := ⟨_, rfl⟩
   have hck : OuAtO wr b (off + k * 8) h := by
    rw [← hh]
    exact ouAtO_of ((hv.below B hB).at_ ouEnc_len Ou.nil hlt)
   obtain ⟨c0, c1, c2, c3, c4, c5, c6, c7⟩ := hck
   have hsz := F.lt
   go_wp2_with fail
   go_at_call 51
   refine (toOu h wr).mono ?_
   rintro e w2 ⟨rfl, k2⟩
   have G := F.keep (k2.block _ hsz.2)
   have B2 := B.trans (k2.mono (Nat.le_of_lt hsz.2))
   obtain ⟨u0, hu0⟩ := G.cell (k * 8) (by omega)
   obtain ⟨u1, hu1⟩ := G.cell (k * 8 + 1) (by omega)
   obtain ⟨u2, hu2⟩ := G.cell (k * 8 + 2) (by omega)
   obtain ⟨u3, hu3⟩ := G.cell (k * 8 + 3) (by omega)
   obtain ⟨u4, hu4⟩ := G.cell (k * 8 + 4) (by omega)
   obtain ⟨u5, hu5⟩ := G.cell (k * 8 + 5) (by omega)
   obtain ⟨u6, hu6⟩ := G.cell (k * 8 + 6) (by omega)
   obtain ⟨u7, hu7⟩ := G.cell (k * 8 + 7) (by omega)
   have f0 := G.frozen (k * 8)
   have f1 := G.frozen (k * 8 + 1)
   have f2 := G.frozen (k * 8 + 2)
   have f3 := G.frozen (k * 8 + 3)
   have f4 := G.frozen (k * 8 + 4)
   have f5 := G.frozen (k * 8 + 5)
   have f6 := G.frozen (k * 8 + 6)
   have f7 := G.frozen (k * 8 + 7)
   have G1 := G.step ouEnc_len Ou.nil hlt
   have B3 := below_putAll (Nat.le_refl _) (ouEnc h) (k * 8) B2
   rw [hh, ouPut] at G1
   rw [ouPut] at B3
   clear F G B B2 hh hsz
   go_wp2
   go_roundw
   case rel => exact ⟨k + 1, by omega, by go_num, G1, B3⟩
   case measure => simp [intOf]; omega
  ·
   obtain rfl : k = L.length := by omega
   go_wp2
   go_ret
   exact ⟨rfl, F.done ouEnc_len, B⟩
end Go.Proofs.YtnpiljegdiconabGreat
