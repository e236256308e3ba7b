import Derived.Test.YtnpiljegdiconaaQM13
import Derived.Test.YtnpiljegdiconaaQKRe5
namespace Go.Proofs.Ytnpiljegdiconaa
open Go.ChangeShapes Go.WideShapes Go.ChangeAt Go.RowKit
open Go.ChangeMaps (open_string shut_string)
set_option linter.unusedVariables false
set_option maxRecDepth 100000
def Ik.nil : Ik := ⟨0, 0, 0, 0, 0, 0, 0, false⟩
def ikEnc (x : Ik) : List Value := [.int .i64 x.k, .int .i64 x.q, .int .i64 x.r, .int .i64 x.c, .int .i64 x.b, .int .i64 x.p, .int .i64 x.h, .bool x.up]
theorem ikEnc_len (x : Ik) : (ikEnc x).length = 8 := rfl
theorem ikEnc_ones (L : List Ik) : ∀ u ∈ fcells ikEnc L, u.oneCell' = true := by
 induction L with
 | nil => intro u h; cases h
 | cons x L ih =>
  intro u h
  simp only [fcells, ikEnc, List.mem_append, List.mem_cons, List.not_mem_nil, or_false] at h
  rcases h with (rfl | rfl | rfl | rfl | rfl | rfl | rfl | rfl) | h
  ·
   rfl
  ·
   rfl
  ·
   rfl
  ·
   rfl
  ·
   rfl
  ·
   rfl
  ·
   rfl
  ·
   rfl
  ·
   exact ih u h
structure IkAtO (w : World) (b o : Nat) (x : Ik) : Prop where
 c0 : w.cell? ⟨b, o, none⟩ = some (.int .i64 x.k)
 c1 : w.cell? ⟨b, o + 1, none⟩ = some (.int .i64 x.q)
 c2 : w.cell? ⟨b, o + 2, none⟩ = some (.int .i64 x.r)
 c3 : w.cell? ⟨b, o + 3, none⟩ = some (.int .i64 x.c)
 c4 : w.cell? ⟨b, o + 4, none⟩ = some (.int .i64 x.b)
 c5 : w.cell? ⟨b, o + 5, none⟩ = some (.int .i64 x.p)
 c6 : w.cell? ⟨b, o + 6, none⟩ = some (.int .i64 x.h)
 c7 : w.cell? ⟨b, o + 7, none⟩ = some (.bool x.up)
theorem ikAtO_of {w : World} {b o : Nat} {x : Ik} (h : ∀ j v, (ikEnc x)[j]? = some v → w.cell? ⟨b, o + j, none⟩ = some v) : IkAtO w b o x := ⟨h 0 _ rfl, h 1 _ rfl, h 2 _ rfl, h 3 _ rfl, h 4 _ rfl, h 5 _ rfl, h 6 _ rfl, h 7 _ rfl⟩
theorem IkAtO.below {w w' : World} {q o n : Nat} {x : Ik} (h : IkAtO w q o x) (k : Below n w w') (hq : q < n) : IkAtO w' q o x :=
 ⟨(World.cell?_of_block (a := ⟨q, o, none⟩) (k.block q hq)).trans h.c0, (World.cell?_of_block (a := ⟨q, o + 1, none⟩) (k.block q hq)).trans h.c1, (World.cell?_of_block (a := ⟨q, o + 2, none⟩) (k.block q hq)).trans h.c2, (World.cell?_of_block (a := ⟨q, o + 3, none⟩) (k.block q hq)).trans h.c3, (World.cell?_of_block (a := ⟨q, o + 4, none⟩) (k.block q hq)).trans h.c4, (World.cell?_of_block (a := ⟨q, o + 5, none⟩) (k.block q hq)).trans h.c5, (World.cell?_of_block (a := ⟨q, o + 6, none⟩) (k.block q hq)).trans h.c6, (World.cell?_of_block (a := ⟨q, o + 7, none⟩) (k.block q hq)).trans h.c7⟩
set_option maxHeartbeats 4000000 in
theorem newBS (id n : Int) (w : World) :
  Calls Try.prog 54 #[.int .i64 id, .int .i64 n] w fun e w' => ∃ ad' cap', e = .returned (.tuple #[.agg #[.int .i64 (newI id n), .slice ad' (newL id n).length cap'], .bool (nOk id n)]) ∧ FOwn ptEnc 11 119 w.heap.size w' (.slice ad' (newL id n).length cap') (newL id n) ∧ Below w.heap.size w w' := by
 obtain ⟨i0, hi, hz0, hz1, hz2⟩ := info_parts ptInfo
 obtain ⟨y, hy⟩ := mk_ ((w.alloc (Obj.cells #[.int .i64 0, .slice none 0 0] 110)).alloc (Obj.cells #[.int .i64 id, .slice none 0 0] 110))
 have B0 : Below w.heap.size w y := by rw [hy]; exact ((Below.refl _ _).alloc (Nat.le_refl _) _).alloc (by simp) _
 have R0 : BBox y w.heap.size 0 (.slice none 0 0) := by rw [hy]; refine ⟨?_, fun i => ?_⟩; constructor <;> simp [go_sem]; simp [go_sem]
 have N0 : BBox y (w.heap.size + 1) id (.slice none 0 0) := by rw [hy]; refine ⟨?_, fun i => ?_⟩; constructor <;> simp [go_sem]; simp [go_sem]
 have S0 := N0.lt
 obtain ⟨IV, hI⟩ := mk_ (newI id n)
 obtain ⟨LV, hM⟩ := mk_ (newL id n)
 obtain ⟨NV, hN⟩ := mk_ (nOk id n)
 rw [← hI, ← hM, ← hN]
 obtain ⟨m, hm⟩ : ∃ m : Nat, m = (if n < 5 then n else 5).toNat := ⟨_, rfl⟩
 have hm5 : m ≤ 5 := by rw [hm]; split <;> omega
 have hmn : nOk id n = nOk id (m : Int) := by
  unfold nOk
  congr 1
  apply decide_eq_decide.2
  rw [hm]
  split <;> omega
 have hmt : nOk id n = true → n.toNat = m := by
  intro h
  unfold nOk at h
  simp only [Bool.and_eq_true, decide_eq_true_eq] at h
  rw [hm, if_pos (by omega)]
 obtain ⟨t, ht⟩ : ∃ t : Int, t = (if n < 5 then n else 5) := ⟨_, rfl⟩
 have htm : t ≤ (m : Int) ∧ (0 ≤ t → t = (m : Int)) ∧ (t < 0 → m = 0) := by rw [ht, hm]; split <;> omega
 replace ht : Hid _ := ht
 replace hI : Hid _ := hI
 replace hM : Hid _ := hM
 replace hN : Hid _ := hN
 replace hmn : Hid _ := hmn
 replace hmt : Hid _ := hmt
 replace htm : Hid _ := htm
 clear hm
 go_enter Try.func54, Try.ntmps54
 go_wp2
 rw [← hy]
 clear hy
 go_loopw [7] (fun i wr => ∃ k : Nat, k ≤ m ∧ i = .int .i64 (k : Int) ∧ (∃ adk capk, FOwn ptEnc 11 119 y.heap.size wr (.slice adk k capk) (List.replicate k Pt.nil) ∧ BBox wr (w.heap.size + 1) id (.slice adk k capk)) ∧ BBox wr w.heap.size 0 (.slice none 0 0) ∧ Below w.heap.size w wr ∧ y.heap.size ≤ wr.heap.size) (fun i _ => m - (intOf i).toNat)
 case atStart => exact ⟨0, Nat.zero_le _, rfl, ⟨none, 0, FOwn.nil, N0⟩, R0, B0, Nat.le_refl _⟩
 case round =>
  obtain ⟨k, hk, rfl, ⟨adk, capk, O, N1⟩, R1, B1, S1⟩ := hrel
  obtain ⟨⟨n0, n1⟩, nf⟩ := N1
  have N1 : BBox wr (w.heap.size + 1) id (.slice adk k capk) := ⟨⟨n0, n1⟩, nf⟩
  by_cases hlt : (k : Int) < t
  ·
   have dl : decide ((k : Int) < t) = true := decide_eq_true hlt
   have hkm : k < m := by have := htm.out; omega
   replace hlt : Hid _ := hlt
   go_wp2_with fail
   go_at_call 65
   refine (minS n 5 wr).mono ?_
   rintro e w2 ⟨rfl, rfl⟩
   rw [← ht.out]
   have V1 := FView.one w2 119 Pt.nil
   have B2 := B1.alloc B1.size (Obj.cells #[.bool false, .bool false, .int .i64 0, .int .i64 0, .int .i64 0, .int .i64 0, .int .i64 0, .int .i64 0, .int .i64 0, .int .i64 0, .bool false] 119)
   have O2 : FOwn ptEnc 11 119 y.heap.size (w2.alloc (Obj.cells #[.bool false, .bool false, .int .i64 0, .int .i64 0, .int .i64 0, .int .i64 0, .int .i64 0, .int .i64 0, .int .i64 0, .int .i64 0, .bool false] 119)) (.slice adk k capk) (List.replicate k Pt.nil) := O.later (below_new _)
   have hcn := O.capn
   go_wp2_with (first | (at_builtin; refine fappL ptEnc_len ptEnc_ones rfl _ _ 108 rfl y.heap.size 119 i0 (.agg #[.bool false, .bool false, .int .i64 0, .int .i64 0, .int .i64 0, .int .i64 0, .int .i64 0, .int .i64 0, .int .i64 0, .int .i64 0, .bool false]) 80 Try.underlying108 hi hz0 hz1 hz2 rfl (by decide) (by decide) (.slice adk k capk) (List.replicate k Pt.nil) rfl O2 (some ⟨w2.heap.size, 0, none⟩) 1 [Pt.nil] rfl (fun e => by cases e) V1 ?z0 ?z1 ?_) | go_in)
   case z0 => simp; omega
   case z1 => simp; omega
   intro vZ wZ hownZ hgrowZ _
   have hownZ : FOwn ptEnc 11 119 y.heap.size wZ vZ (List.replicate (k + 1) Pt.nil) := by rw [List.replicate_succ']; exact hownZ
   have ho : ∀ g, (Value.slice adk k capk).ownBlock = some g → y.heap.size ≤ g := fun g e => (O2.lt g e).1
   have BZ : Below w.heap.size w wZ := B2.grown hgrowZ B2.size (fun g e => by have := ho g e; omega)
   have NZ : BBox wZ (w.heap.size + 1) id (.slice adk k capk) := (N1.below (below_new _) N1.lt).keep (hgrowZ.block _ (by have := N1.lt; simp; omega) (fun e => by have := ho _ e.symm; omega))
   have RZ : BBox wZ w.heap.size 0 (.slice none 0 0) := (R1.below (below_new _) R1.lt).keep (hgrowZ.block _ (by have := R1.lt; simp; omega) (fun e => by have := ho _ e.symm; omega))
   have SZ : y.heap.size ≤ wZ.heap.size := by have := hgrowZ.size; simp at this; omega
   obtain ⟨aZ, cZ, hvz⟩ := hownZ.open_
   rw [List.length_replicate] at hvz
   subst hvz
   clear hgrowZ V1 B2 O2 n0 n1 nf N1 R1 O ho hcn
   obtain ⟨⟨q0, q1⟩, qf⟩ := NZ
   have NZ : BBox wZ (w.heap.size + 1) id (.slice adk k capk) := ⟨⟨q0, q1⟩, qf⟩
   have NS : BBox (wZ.setCell ⟨w.heap.size + 1, 1, none⟩ (.slice aZ (k + 1) cZ)) (w.heap.size + 1) id (.slice aZ (k + 1) cZ) := ⟨⟨(pset_else (by decide)).trans q0, pset_same q1⟩, fun i => by rw [World.frozen?_setCell]; exact qf i⟩
   have RS : BBox (wZ.setCell ⟨w.heap.size + 1, 1, none⟩ (.slice aZ (k + 1) cZ)) w.heap.size 0 (.slice none 0 0) := RZ.keep (Below.heap_setCell _ _ _ _ (by show w.heap.size ≠ w.heap.size + 1; omega))
   have OS : FOwn ptEnc 11 119 y.heap.size (wZ.setCell ⟨w.heap.size + 1, 1, none⟩ (.slice aZ (k + 1) cZ)) (.slice aZ (k + 1) cZ) (List.replicate (k + 1) Pt.nil) := hownZ.keep fun g' e => Below.heap_setCell _ _ _ _ (by have := (hownZ.lt g' e).1; show g' ≠ w.heap.size + 1; omega)
   have BS := BZ.setCell (p := ⟨w.heap.size + 1, 1, none⟩) (by show _ ≤ w.heap.size + 1; omega) (.slice aZ (k + 1) cZ)
   clear NZ RZ hownZ BZ
   go_wp2
   go_roundw
   case rel => exact ⟨k + 1, by omega, by go_num, ⟨aZ, cZ, OS, NS⟩, RS, BS, by simpa using SZ⟩
   case measure => simp [intOf]; omega
  ·
   have dl : decide ((k : Int) < t) = false := decide_eq_false hlt
   have hkm : Hid (k = m) := by unfold Hid; have := htm.out; omega
   replace hlt : Hid _ := hlt
   go_wp2_with fail
   go_at_call 65
   refine (minS n 5 wr).mono ?_
   rintro e w2 ⟨rfl, rfl⟩
   rw [← ht.out]
   have hc := bOkS id adk capk (List.replicate k Pt.nil) w2 (by have := O.view.2; exact this) (by rw [List.length_replicate]; omega)
   rw [List.length_replicate, bOk_new, hkm.out, ← hmn.out, ← hkm.out] at hc
   go_wp2_with fail
   go_at_call 66
   refine hc.mono ?_
   rintro e w3 ⟨rfl, k3⟩
   have R3 := R1.below k3 R1.lt
   have N3 := N1.below k3 N1.lt
   have O3 := O.later k3
   have B3 := B1.trans (k3.mono B1.size)
   clear hc k3 n0 n1 nf R1 N1 O
   cases he : nOk id n with
   | false =>
    replace hI : Hid (IV = 0) := by unfold Hid; rw [hI.out]; unfold newI; rw [he]; rfl
    replace hM : Hid (LV = []) := by unfold Hid; rw [hM.out]; unfold newL; rw [he]; rfl
    replace hN : Hid (NV = false) := by unfold Hid; rw [hN.out, he]
    clear he
    have RP := R3.put 0 (.slice none 0 0)
    obtain ⟨⟨r0, r1⟩, rf⟩ := R3
    have BZ := (B3.setCell (p := ⟨w.heap.size, 0, none⟩) (Nat.le_refl w.heap.size) (.int .i64 0)).setCell (p := ⟨w.heap.size, 1, none⟩) (Nat.le_refl w.heap.size) (.slice none 0 0)
    obtain ⟨⟨p0, p1⟩, _⟩ := RP
    go_wp2
    refine bodyPost_ret (v := .tuple #[.agg #[.int .i64 0, .slice none 0 0], .bool false]) (by simp [results, Try.results54, go_sem, *]) rfl ⟨none, 0, by rw [hI.out, hM.out, hN.out]; rfl, by rw [hM.out]; exact FOwn.nil, BZ⟩
   | true =>
    have hRl : Hid (LV.length = k) := by unfold Hid; rw [hM.out]; unfold newL; rw [he, if_pos rfl, List.length_replicate, hmt.out he, hkm.out]
    replace hI : Hid (IV = id) := by unfold Hid; rw [hI.out]; unfold newI; rw [he]; rfl
    replace hM : Hid (LV = List.replicate k Pt.nil) := by unfold Hid; rw [hM.out]; unfold newL; rw [he, if_pos rfl, hmt.out he, hkm.out]
    replace hN : Hid (NV = true) := by unfold Hid; rw [hN.out, he]
    clear he hkm
    have RP := R3.put id (.slice adk k capk)
    obtain ⟨⟨r0, r1⟩, rf⟩ := R3
    obtain ⟨⟨n0, n1⟩, nf⟩ := N3
    have BZ := (B3.setCell (p := ⟨w.heap.size, 0, none⟩) (Nat.le_refl w.heap.size) (.int .i64 id)).setCell (p := ⟨w.heap.size, 1, none⟩) (Nat.le_refl w.heap.size) (.slice adk k capk)
    have OZ : FOwn ptEnc 11 119 w.heap.size ((w3.setCell ⟨w.heap.size, 0, none⟩ (.int .i64 id)).setCell ⟨w.heap.size, 1, none⟩ (.slice adk k capk)) (.slice adk k capk) (List.replicate k Pt.nil) := (O3.base (by omega)).keep fun g' e => by
     have := (O3.lt g' e).1
     rw [Below.heap_setCell _ _ _ _ (by show g' ≠ w.heap.size; omega), Below.heap_setCell _ _ _ _ (by show g' ≠ w.heap.size; omega)]
    obtain ⟨⟨p0, p1⟩, _⟩ := RP
    go_wp2
    refine bodyPost_ret (v := .tuple #[.agg #[.int .i64 id, .slice adk k capk], .bool true]) (by simp [results, Try.results54, go_sem, *]) rfl ⟨adk, capk, by rw [hI.out, hN.out, hRl.out], by rw [hRl.out, hM.out]; exact OZ, BZ⟩
end Go.Proofs.Ytnpiljegdiconaa
namespace Go.Proofs.Ytnpiljegdiconaa
open Go.ChangeShapes Go.WideShapes Go.ChangeAt Go.RowKit
open Go.ChangeMaps (open_string shut_string)
set_option linter.unusedVariables false
set_option maxRecDepth 100000
theorem IBox.puts {w : World} {q : Nat} {x0 : Ik} (h : IBox w q x0) (x : Ik) : InAt ((((((((w.setCell ⟨q, 0, none⟩ (.int .i64 x.k)).setCell ⟨q, 1, none⟩ (.int .i64 x.q)).setCell ⟨q, 2, none⟩ (.int .i64 x.r)).setCell ⟨q, 3, none⟩ (.int .i64 x.c)).setCell ⟨q, 4, none⟩ (.int .i64 x.b)).setCell ⟨q, 5, none⟩ (.int .i64 x.p)).setCell ⟨q, 6, none⟩ (.int .i64 x.h)).setCell ⟨q, 7, none⟩ (.bool x.up)) q x := by
 obtain ⟨⟨h0, h1, h2, h3, h4, h5, h6, h7⟩, _⟩ := h
 have h0 : (w.setCell ⟨q, 0, none⟩ (.int .i64 x.k)).cell? ⟨q, 0, none⟩ = some (.int .i64 x.k) := pset_same h0
 have h1 : (w.setCell ⟨q, 0, none⟩ (.int .i64 x.k)).cell? ⟨q, 1, none⟩ = _ := (pset_else (by decide)).trans h1
 have h2 : (w.setCell ⟨q, 0, none⟩ (.int .i64 x.k)).cell? ⟨q, 2, none⟩ = _ := (pset_else (by decide)).trans h2
 have h3 : (w.setCell ⟨q, 0, none⟩ (.int .i64 x.k)).cell? ⟨q, 3, none⟩ = _ := (pset_else (by decide)).trans h3
 have h4 : (w.setCell ⟨q, 0, none⟩ (.int .i64 x.k)).cell? ⟨q, 4, none⟩ = _ := (pset_else (by decide)).trans h4
 have h5 : (w.setCell ⟨q, 0, none⟩ (.int .i64 x.k)).cell? ⟨q, 5, none⟩ = _ := (pset_else (by decide)).trans h5
 have h6 : (w.setCell ⟨q, 0, none⟩ (.int .i64 x.k)).cell? ⟨q, 6, none⟩ = _ := (pset_else (by decide)).trans h6
 have h7 : (w.setCell ⟨q, 0, none⟩ (.int .i64 x.k)).cell? ⟨q, 7, none⟩ = _ := (pset_else (by decide)).trans h7
 have h0 : ((w.setCell ⟨q, 0, none⟩ (.int .i64 x.k)).setCell ⟨q, 1, none⟩ (.int .i64 x.q)).cell? ⟨q, 0, none⟩ = _ := (pset_else (by decide)).trans h0
 have h1 : ((w.setCell ⟨q, 0, none⟩ (.int .i64 x.k)).setCell ⟨q, 1, none⟩ (.int .i64 x.q)).cell? ⟨q, 1, none⟩ = some (.int .i64 x.q) := pset_same h1
 have h2 : ((w.setCell ⟨q, 0, none⟩ (.int .i64 x.k)).setCell ⟨q, 1, none⟩ (.int .i64 x.q)).cell? ⟨q, 2, none⟩ = _ := (pset_else (by decide)).trans h2
 have h3 : ((w.setCell ⟨q, 0, none⟩ (.int .i64 x.k)).setCell ⟨q, 1, none⟩ (.int .i64 x.q)).cell? ⟨q, 3, none⟩ = _ := (pset_else (by decide)).trans h3
 have h4 : ((w.setCell ⟨q, 0, none⟩ (.int .i64 x.k)).setCell ⟨q, 1, none⟩ (.int .i64 x.q)).cell? ⟨q, 4, none⟩ = _ := (pset_else (by decide)).trans h4
 have h5 : ((w.setCell ⟨q, 0, none⟩ (.int .i64 x.k)).setCell ⟨q, 1, none⟩ (.int .i64 x.q)).cell? ⟨q, 5, none⟩ = _ := (pset_else (by decide)).trans h5
 have h6 : ((w.setCell ⟨q, 0, none⟩ (.int .i64 x.k)).setCell ⟨q, 1, none⟩ (.int .i64 x.q)).cell? ⟨q, 6, none⟩ = _ := (pset_else (by decide)).trans h6
 have h7 : ((w.setCell ⟨q, 0, none⟩ (.int .i64 x.k)).setCell ⟨q, 1, none⟩ (.int .i64 x.q)).cell? ⟨q, 7, none⟩ = _ := (pset_else (by decide)).trans h7
 have h0 : (((w.setCell ⟨q, 0, none⟩ (.int .i64 x.k)).setCell ⟨q, 1, none⟩ (.int .i64 x.q)).setCell ⟨q, 2, none⟩ (.int .i64 x.r)).cell? ⟨q, 0, none⟩ = _ := (pset_else (by decide)).trans h0
 have h1 : (((w.setCell ⟨q, 0, none⟩ (.int .i64 x.k)).setCell ⟨q, 1, none⟩ (.int .i64 x.q)).setCell ⟨q, 2, none⟩ (.int .i64 x.r)).cell? ⟨q, 1, none⟩ = _ := (pset_else (by decide)).trans h1
 have h2 : (((w.setCell ⟨q, 0, none⟩ (.int .i64 x.k)).setCell ⟨q, 1, none⟩ (.int .i64 x.q)).setCell ⟨q, 2, none⟩ (.int .i64 x.r)).cell? ⟨q, 2, none⟩ = some (.int .i64 x.r) := pset_same h2
 have h3 : (((w.setCell ⟨q, 0, none⟩ (.int .i64 x.k)).setCell ⟨q, 1, none⟩ (.int .i64 x.q)).setCell ⟨q, 2, none⟩ (.int .i64 x.r)).cell? ⟨q, 3, none⟩ = _ := (pset_else (by decide)).trans h3
 have h4 : (((w.setCell ⟨q, 0, none⟩ (.int .i64 x.k)).setCell ⟨q, 1, none⟩ (.int .i64 x.q)).setCell ⟨q, 2, none⟩ (.int .i64 x.r)).cell? ⟨q, 4, none⟩ = _ := (pset_else (by decide)).trans h4
 have h5 : (((w.setCell ⟨q, 0, none⟩ (.int .i64 x.k)).setCell ⟨q, 1, none⟩ (.int .i64 x.q)).setCell ⟨q, 2, none⟩ (.int .i64 x.r)).cell? ⟨q, 5, none⟩ = _ := (pset_else (by decide)).trans h5
 have h6 : (((w.setCell ⟨q, 0, none⟩ (.int .i64 x.k)).setCell ⟨q, 1, none⟩ (.int .i64 x.q)).setCell ⟨q, 2, none⟩ (.int .i64 x.r)).cell? ⟨q, 6, none⟩ = _ := (pset_else (by decide)).trans h6
 have h7 : (((w.setCell ⟨q, 0, none⟩ (.int .i64 x.k)).setCell ⟨q, 1, none⟩ (.int .i64 x.q)).setCell ⟨q, 2, none⟩ (.int .i64 x.r)).cell? ⟨q, 7, none⟩ = _ := (pset_else (by decide)).trans h7
 have h0 : ((((w.setCell ⟨q, 0, none⟩ (.int .i64 x.k)).setCell ⟨q, 1, none⟩ (.int .i64 x.q)).setCell ⟨q, 2, none⟩ (.int .i64 x.r)).setCell ⟨q, 3, none⟩ (.int .i64 x.c)).cell? ⟨q, 0, none⟩ = _ := (pset_else (by decide)).trans h0
 have h1 : ((((w.setCell ⟨q, 0, none⟩ (.int .i64 x.k)).setCell ⟨q, 1, none⟩ (.int .i64 x.q)).setCell ⟨q, 2, none⟩ (.int .i64 x.r)).setCell ⟨q, 3, none⟩ (.int .i64 x.c)).cell? ⟨q, 1, none⟩ = _ := (pset_else (by decide)).trans h1
 have h2 : ((((w.setCell ⟨q, 0, none⟩ (.int .i64 x.k)).setCell ⟨q, 1, none⟩ (.int .i64 x.q)).setCell ⟨q, 2, none⟩ (.int .i64 x.r)).setCell ⟨q, 3, none⟩ (.int .i64 x.c)).cell? ⟨q, 2, none⟩ = _ := (pset_else (by decide)).trans h2
 have h3 : ((((w.setCell ⟨q, 0, none⟩ (.int .i64 x.k)).setCell ⟨q, 1, none⟩ (.int .i64 x.q)).setCell ⟨q, 2, none⟩ (.int .i64 x.r)).setCell ⟨q, 3, none⟩ (.int .i64 x.c)).cell? ⟨q, 3, none⟩ = some (.int .i64 x.c) := pset_same h3
 have h4 : ((((w.setCell ⟨q, 0, none⟩ (.int .i64 x.k)).setCell ⟨q, 1, none⟩ (.int .i64 x.q)).setCell ⟨q, 2, none⟩ (.int .i64 x.r)).setCell ⟨q, 3, none⟩ (.int .i64 x.c)).cell? ⟨q, 4, none⟩ = _ := (pset_else (by decide)).trans h4
 have h5 : ((((w.setCell ⟨q, 0, none⟩ (.int .i64 x.k)).setCell ⟨q, 1, none⟩ (.int .i64 x.q)).setCell ⟨q, 2, none⟩ (.int .i64 x.r)).setCell ⟨q, 3, none⟩ (.int .i64 x.c)).cell? ⟨q, 5, none⟩ = _ := (pset_else (by decide)).trans h5
 have h6 : ((((w.setCell ⟨q, 0, none⟩ (.int .i64 x.k)).setCell ⟨q, 1, none⟩ (.int .i64 x.q)).setCell ⟨q, 2, none⟩ (.int .i64 x.r)).setCell ⟨q, 3, none⟩ (.int .i64 x.c)).cell? ⟨q, 6, none⟩ = _ := (pset_else (by decide)).trans h6
 have h7 : ((((w.setCell ⟨q, 0, none⟩ (.int .i64 x.k)).setCell ⟨q, 1, none⟩ (.int .i64 x.q)).setCell ⟨q, 2, none⟩ (.int .i64 x.r)).setCell ⟨q, 3, none⟩ (.int .i64 x.c)).cell? ⟨q, 7, none⟩ = _ := (pset_else (by decide)).trans h7
 have h0 : (((((w.setCell ⟨q, 0, none⟩ (.int .i64 x.k)).setCell ⟨q, 1, none⟩ (.int .i64 x.q)).setCell ⟨q, 2, none⟩ (.int .i64 x.r)).setCell ⟨q, 3, none⟩ (.int .i64 x.c)).setCell ⟨q, 4, none⟩ (.int .i64 x.b)).cell? ⟨q, 0, none⟩ = _ := (pset_else (by decide)).trans h0
 have h1 : (((((w.setCell ⟨q, 0, none⟩ (.int .i64 x.k)).setCell ⟨q, 1, none⟩ (.int .i64 x.q)).setCell ⟨q, 2, none⟩ (.int .i64 x.r)).setCell ⟨q, 3, none⟩ (.int .i64 x.c)).setCell ⟨q, 4, none⟩ (.int .i64 x.b)).cell? ⟨q, 1, none⟩ = _ := (pset_else (by decide)).trans h1
 have h2 : (((((w.setCell ⟨q, 0, none⟩ (.int .i64 x.k)).setCell ⟨q, 1, none⟩ (.int .i64 x.q)).setCell ⟨q, 2, none⟩ (.int .i64 x.r)).setCell ⟨q, 3, none⟩ (.int .i64 x.c)).setCell ⟨q, 4, none⟩ (.int .i64 x.b)).cell? ⟨q, 2, none⟩ = _ := (pset_else (by decide)).trans h2
 have h3 : (((((w.setCell ⟨q, 0, none⟩ (.int .i64 x.k)).setCell ⟨q, 1, none⟩ (.int .i64 x.q)).setCell ⟨q, 2, none⟩ (.int .i64 x.r)).setCell ⟨q, 3, none⟩ (.int .i64 x.c)).setCell ⟨q, 4, none⟩ (.int .i64 x.b)).cell? ⟨q, 3, none⟩ = _ := (pset_else (by decide)).trans h3
 have h4 : (((((w.setCell ⟨q, 0, none⟩ (.int .i64 x.k)).setCell ⟨q, 1, none⟩ (.int .i64 x.q)).setCell ⟨q, 2, none⟩ (.int .i64 x.r)).setCell ⟨q, 3, none⟩ (.int .i64 x.c)).setCell ⟨q, 4, none⟩ (.int .i64 x.b)).cell? ⟨q, 4, none⟩ = some (.int .i64 x.b) := pset_same h4
 have h5 : (((((w.setCell ⟨q, 0, none⟩ (.int .i64 x.k)).setCell ⟨q, 1, none⟩ (.int .i64 x.q)).setCell ⟨q, 2, none⟩ (.int .i64 x.r)).setCell ⟨q, 3, none⟩ (.int .i64 x.c)).setCell ⟨q, 4, none⟩ (.int .i64 x.b)).cell? ⟨q, 5, none⟩ = _ := (pset_else (by decide)).trans h5
 have h6 : (((((w.setCell ⟨q, 0, none⟩ (.int .i64 x.k)).setCell ⟨q, 1, none⟩ (.int .i64 x.q)).setCell ⟨q, 2, none⟩ (.int .i64 x.r)).setCell ⟨q, 3, none⟩ (.int .i64 x.c)).setCell ⟨q, 4, none⟩ (.int .i64 x.b)).cell? ⟨q, 6, none⟩ = _ := (pset_else (by decide)).trans h6
 have h7 : (((((w.setCell ⟨q, 0, none⟩ (.int .i64 x.k)).setCell ⟨q, 1, none⟩ (.int .i64 x.q)).setCell ⟨q, 2, none⟩ (.int .i64 x.r)).setCell ⟨q, 3, none⟩ (.int .i64 x.c)).setCell ⟨q, 4, none⟩ (.int .i64 x.b)).cell? ⟨q, 7, none⟩ = _ := (pset_else (by decide)).trans h7
 have h0 : ((((((w.setCell ⟨q, 0, none⟩ (.int .i64 x.k)).setCell ⟨q, 1, none⟩ (.int .i64 x.q)).setCell ⟨q, 2, none⟩ (.int .i64 x.r)).setCell ⟨q, 3, none⟩ (.int .i64 x.c)).setCell ⟨q, 4, none⟩ (.int .i64 x.b)).setCell ⟨q, 5, none⟩ (.int .i64 x.p)).cell? ⟨q, 0, none⟩ = _ := (pset_else (by decide)).trans h0
 have h1 : ((((((w.setCell ⟨q, 0, none⟩ (.int .i64 x.k)).setCell ⟨q, 1, none⟩ (.int .i64 x.q)).setCell ⟨q, 2, none⟩ (.int .i64 x.r)).setCell ⟨q, 3, none⟩ (.int .i64 x.c)).setCell ⟨q, 4, none⟩ (.int .i64 x.b)).setCell ⟨q, 5, none⟩ (.int .i64 x.p)).cell? ⟨q, 1, none⟩ = _ := (pset_else (by decide)).trans h1
 have h2 : ((((((w.setCell ⟨q, 0, none⟩ (.int .i64 x.k)).setCell ⟨q, 1, none⟩ (.int .i64 x.q)).setCell ⟨q, 2, none⟩ (.int .i64 x.r)).setCell ⟨q, 3, none⟩ (.int .i64 x.c)).setCell ⟨q, 4, none⟩ (.int .i64 x.b)).setCell ⟨q, 5, none⟩ (.int .i64 x.p)).cell? ⟨q, 2, none⟩ = _ := (pset_else (by decide)).trans h2
 have h3 : ((((((w.setCell ⟨q, 0, none⟩ (.int .i64 x.k)).setCell ⟨q, 1, none⟩ (.int .i64 x.q)).setCell ⟨q, 2, none⟩ (.int .i64 x.r)).setCell ⟨q, 3, none⟩ (.int .i64 x.c)).setCell ⟨q, 4, none⟩ (.int .i64 x.b)).setCell ⟨q, 5, none⟩ (.int .i64 x.p)).cell? ⟨q, 3, none⟩ = _ := (pset_else (by decide)).trans h3
 have h4 : ((((((w.setCell ⟨q, 0, none⟩ (.int .i64 x.k)).setCell ⟨q, 1, none⟩ (.int .i64 x.q)).setCell ⟨q, 2, none⟩ (.int .i64 x.r)).setCell ⟨q, 3, none⟩ (.int .i64 x.c)).setCell ⟨q, 4, none⟩ (.int .i64 x.b)).setCell ⟨q, 5, none⟩ (.int .i64 x.p)).cell? ⟨q, 4, none⟩ = _ := (pset_else (by decide)).trans h4
 have h5 : ((((((w.setCell ⟨q, 0, none⟩ (.int .i64 x.k)).setCell ⟨q, 1, none⟩ (.int .i64 x.q)).setCell ⟨q, 2, none⟩ (.int .i64 x.r)).setCell ⟨q, 3, none⟩ (.int .i64 x.c)).setCell ⟨q, 4, none⟩ (.int .i64 x.b)).setCell ⟨q, 5, none⟩ (.int .i64 x.p)).cell? ⟨q, 5, none⟩ = some (.int .i64 x.p) := pset_same h5
 have h6 : ((((((w.setCell ⟨q, 0, none⟩ (.int .i64 x.k)).setCell ⟨q, 1, none⟩ (.int .i64 x.q)).setCell ⟨q, 2, none⟩ (.int .i64 x.r)).setCell ⟨q, 3, none⟩ (.int .i64 x.c)).setCell ⟨q, 4, none⟩ (.int .i64 x.b)).setCell ⟨q, 5, none⟩ (.int .i64 x.p)).cell? ⟨q, 6, none⟩ = _ := (pset_else (by decide)).trans h6
 have h7 : ((((((w.setCell ⟨q, 0, none⟩ (.int .i64 x.k)).setCell ⟨q, 1, none⟩ (.int .i64 x.q)).setCell ⟨q, 2, none⟩ (.int .i64 x.r)).setCell ⟨q, 3, none⟩ (.int .i64 x.c)).setCell ⟨q, 4, none⟩ (.int .i64 x.b)).setCell ⟨q, 5, none⟩ (.int .i64 x.p)).cell? ⟨q, 7, none⟩ = _ := (pset_else (by decide)).trans h7
 have h0 : (((((((w.setCell ⟨q, 0, none⟩ (.int .i64 x.k)).setCell ⟨q, 1, none⟩ (.int .i64 x.q)).setCell ⟨q, 2, none⟩ (.int .i64 x.r)).setCell ⟨q, 3, none⟩ (.int .i64 x.c)).setCell ⟨q, 4, none⟩ (.int .i64 x.b)).setCell ⟨q, 5, none⟩ (.int .i64 x.p)).setCell ⟨q, 6, none⟩ (.int .i64 x.h)).cell? ⟨q, 0, none⟩ = _ := (pset_else (by decide)).trans h0
 have h1 : (((((((w.setCell ⟨q, 0, none⟩ (.int .i64 x.k)).setCell ⟨q, 1, none⟩ (.int .i64 x.q)).setCell ⟨q, 2, none⟩ (.int .i64 x.r)).setCell ⟨q, 3, none⟩ (.int .i64 x.c)).setCell ⟨q, 4, none⟩ (.int .i64 x.b)).setCell ⟨q, 5, none⟩ (.int .i64 x.p)).setCell ⟨q, 6, none⟩ (.int .i64 x.h)).cell? ⟨q, 1, none⟩ = _ := (pset_else (by decide)).trans h1
 have h2 : (((((((w.setCell ⟨q, 0, none⟩ (.int .i64 x.k)).setCell ⟨q, 1, none⟩ (.int .i64 x.q)).setCell ⟨q, 2, none⟩ (.int .i64 x.r)).setCell ⟨q, 3, none⟩ (.int .i64 x.c)).setCell ⟨q, 4, none⟩ (.int .i64 x.b)).setCell ⟨q, 5, none⟩ (.int .i64 x.p)).setCell ⟨q, 6, none⟩ (.int .i64 x.h)).cell? ⟨q, 2, none⟩ = _ := (pset_else (by decide)).trans h2
 have h3 : (((((((w.setCell ⟨q, 0, none⟩ (.int .i64 x.k)).setCell ⟨q, 1, none⟩ (.int .i64 x.q)).setCell ⟨q, 2, none⟩ (.int .i64 x.r)).setCell ⟨q, 3, none⟩ (.int .i64 x.c)).setCell ⟨q, 4, none⟩ (.int .i64 x.b)).setCell ⟨q, 5, none⟩ (.int .i64 x.p)).setCell ⟨q, 6, none⟩ (.int .i64 x.h)).cell? ⟨q, 3, none⟩ = _ := (pset_else (by decide)).trans h3
 have h4 : (((((((w.setCell ⟨q, 0, none⟩ (.int .i64 x.k)).setCell ⟨q, 1, none⟩ (.int .i64 x.q)).setCell ⟨q, 2, none⟩ (.int .i64 x.r)).setCell ⟨q, 3, none⟩ (.int .i64 x.c)).setCell ⟨q, 4, none⟩ (.int .i64 x.b)).setCell ⟨q, 5, none⟩ (.int .i64 x.p)).setCell ⟨q, 6, none⟩ (.int .i64 x.h)).cell? ⟨q, 4, none⟩ = _ := (pset_else (by decide)).trans h4
 have h5 : (((((((w.setCell ⟨q, 0, none⟩ (.int .i64 x.k)).setCell ⟨q, 1, none⟩ (.int .i64 x.q)).setCell ⟨q, 2, none⟩ (.int .i64 x.r)).setCell ⟨q, 3, none⟩ (.int .i64 x.c)).setCell ⟨q, 4, none⟩ (.int .i64 x.b)).setCell ⟨q, 5, none⟩ (.int .i64 x.p)).setCell ⟨q, 6, none⟩ (.int .i64 x.h)).cell? ⟨q, 5, none⟩ = _ := (pset_else (by decide)).trans h5
 have h6 : (((((((w.setCell ⟨q, 0, none⟩ (.int .i64 x.k)).setCell ⟨q, 1, none⟩ (.int .i64 x.q)).setCell ⟨q, 2, none⟩ (.int .i64 x.r)).setCell ⟨q, 3, none⟩ (.int .i64 x.c)).setCell ⟨q, 4, none⟩ (.int .i64 x.b)).setCell ⟨q, 5, none⟩ (.int .i64 x.p)).setCell ⟨q, 6, none⟩ (.int .i64 x.h)).cell? ⟨q, 6, none⟩ = some (.int .i64 x.h) := pset_same h6
 have h7 : (((((((w.setCell ⟨q, 0, none⟩ (.int .i64 x.k)).setCell ⟨q, 1, none⟩ (.int .i64 x.q)).setCell ⟨q, 2, none⟩ (.int .i64 x.r)).setCell ⟨q, 3, none⟩ (.int .i64 x.c)).setCell ⟨q, 4, none⟩ (.int .i64 x.b)).setCell ⟨q, 5, none⟩ (.int .i64 x.p)).setCell ⟨q, 6, none⟩ (.int .i64 x.h)).cell? ⟨q, 7, none⟩ = _ := (pset_else (by decide)).trans h7
 have h0 : ((((((((w.setCell ⟨q, 0, none⟩ (.int .i64 x.k)).setCell ⟨q, 1, none⟩ (.int .i64 x.q)).setCell ⟨q, 2, none⟩ (.int .i64 x.r)).setCell ⟨q, 3, none⟩ (.int .i64 x.c)).setCell ⟨q, 4, none⟩ (.int .i64 x.b)).setCell ⟨q, 5, none⟩ (.int .i64 x.p)).setCell ⟨q, 6, none⟩ (.int .i64 x.h)).setCell ⟨q, 7, none⟩ (.bool x.up)).cell? ⟨q, 0, none⟩ = _ := (pset_else (by decide)).trans h0
 have h1 : ((((((((w.setCell ⟨q, 0, none⟩ (.int .i64 x.k)).setCell ⟨q, 1, none⟩ (.int .i64 x.q)).setCell ⟨q, 2, none⟩ (.int .i64 x.r)).setCell ⟨q, 3, none⟩ (.int .i64 x.c)).setCell ⟨q, 4, none⟩ (.int .i64 x.b)).setCell ⟨q, 5, none⟩ (.int .i64 x.p)).setCell ⟨q, 6, none⟩ (.int .i64 x.h)).setCell ⟨q, 7, none⟩ (.bool x.up)).cell? ⟨q, 1, none⟩ = _ := (pset_else (by decide)).trans h1
 have h2 : ((((((((w.setCell ⟨q, 0, none⟩ (.int .i64 x.k)).setCell ⟨q, 1, none⟩ (.int .i64 x.q)).setCell ⟨q, 2, none⟩ (.int .i64 x.r)).setCell ⟨q, 3, none⟩ (.int .i64 x.c)).setCell ⟨q, 4, none⟩ (.int .i64 x.b)).setCell ⟨q, 5, none⟩ (.int .i64 x.p)).setCell ⟨q, 6, none⟩ (.int .i64 x.h)).setCell ⟨q, 7, none⟩ (.bool x.up)).cell? ⟨q, 2, none⟩ = _ := (pset_else (by decide)).trans h2
 have h3 : ((((((((w.setCell ⟨q, 0, none⟩ (.int .i64 x.k)).setCell ⟨q, 1, none⟩ (.int .i64 x.q)).setCell ⟨q, 2, none⟩ (.int .i64 x.r)).setCell ⟨q, 3, none⟩ (.int .i64 x.c)).setCell ⟨q, 4, none⟩ (.int .i64 x.b)).setCell ⟨q, 5, none⟩ (.int .i64 x.p)).setCell ⟨q, 6, none⟩ (.int .i64 x.h)).setCell ⟨q, 7, none⟩ (.bool x.up)).cell? ⟨q, 3, none⟩ = _ := (pset_else (by decide)).trans h3
 have h4 : ((((((((w.setCell ⟨q, 0, none⟩ (.int .i64 x.k)).setCell ⟨q, 1, none⟩ (.int .i64 x.q)).setCell ⟨q, 2, none⟩ (.int .i64 x.r)).setCell ⟨q, 3, none⟩ (.int .i64 x.c)).setCell ⟨q, 4, none⟩ (.int .i64 x.b)).setCell ⟨q, 5, none⟩ (.int .i64 x.p)).setCell ⟨q, 6, none⟩ (.int .i64 x.h)).setCell ⟨q, 7, none⟩ (.bool x.up)).cell? ⟨q, 4, none⟩ = _ := (pset_else (by decide)).trans h4
 have h5 : ((((((((w.setCell ⟨q, 0, none⟩ (.int .i64 x.k)).setCell ⟨q, 1, none⟩ (.int .i64 x.q)).setCell ⟨q, 2, none⟩ (.int .i64 x.r)).setCell ⟨q, 3, none⟩ (.int .i64 x.c)).setCell ⟨q, 4, none⟩ (.int .i64 x.b)).setCell ⟨q, 5, none⟩ (.int .i64 x.p)).setCell ⟨q, 6, none⟩ (.int .i64 x.h)).setCell ⟨q, 7, none⟩ (.bool x.up)).cell? ⟨q, 5, none⟩ = _ := (pset_else (by decide)).trans h5
 have h6 : ((((((((w.setCell ⟨q, 0, none⟩ (.int .i64 x.k)).setCell ⟨q, 1, none⟩ (.int .i64 x.q)).setCell ⟨q, 2, none⟩ (.int .i64 x.r)).setCell ⟨q, 3, none⟩ (.int .i64 x.c)).setCell ⟨q, 4, none⟩ (.int .i64 x.b)).setCell ⟨q, 5, none⟩ (.int .i64 x.p)).setCell ⟨q, 6, none⟩ (.int .i64 x.h)).setCell ⟨q, 7, none⟩ (.bool x.up)).cell? ⟨q, 6, none⟩ = _ := (pset_else (by decide)).trans h6
 have h7 : ((((((((w.setCell ⟨q, 0, none⟩ (.int .i64 x.k)).setCell ⟨q, 1, none⟩ (.int .i64 x.q)).setCell ⟨q, 2, none⟩ (.int .i64 x.r)).setCell ⟨q, 3, none⟩ (.int .i64 x.c)).setCell ⟨q, 4, none⟩ (.int .i64 x.b)).setCell ⟨q, 5, none⟩ (.int .i64 x.p)).setCell ⟨q, 6, none⟩ (.int .i64 x.h)).setCell ⟨q, 7, none⟩ (.bool x.up)).cell? ⟨q, 7, none⟩ = some (.bool x.up) := pset_same h7
 exact ⟨h0, h1, h2, h3, h4, h5, h6, h7⟩
theorem bOk_len4 {id : Int} {L : List Pt} (h : bOk id L = true) : L.length ≤ 4 := (bOk_all h).2.1.2
theorem reactO_len (id : Int) (L : List Pt) (x : Ik) : (reactO id L x).length ≤ 8 := by
 unfold reactO
 split
 ·
  rename_i h
  unfold goes at h
  simp only [Bool.and_eq_true] at h
  have h4 := bOk_len4 h.1
  have h1 := gates_len L (afterL id L x) L.length
  have h2 := told_len id (afterL id L x) L.length
  rw [List.length_append]
  split
  ·
   omega
  ·
   simp; omega
 ·
  simp
theorem FView.take {X : Type} {enc : X → List Value} {w : World} {ad : Option Addr} {L : List X} (h : FView enc w ad L) (k : Nat) : FView enc w ad (L.take k) := by
 intro hp
 obtain ⟨b, off, e, hc⟩ := h (by rw [List.length_take] at hp; omega)
 refine ⟨b, off, e, fun j v hv => hc j v ?_⟩
 rw [← List.take_append_drop k L, fcells_app, List.getElem?_append_left (List.getElem?_eq_some_iff.1 hv).1]
 exact hv
def ofR (id n : Int) (X : List Ik) : List Pt := ofL (newI id n) (newL id n) X
theorem newL_small (id n : Int) : (newL id n).length ≤ 4 := by
 unfold newL
 split
 ·
  rename_i q
  unfold nOk at q
  simp only [Bool.and_eq_true, decide_eq_true_eq] at q
  rw [List.length_replicate]
  omega
 ·
  simp
theorem ofR_len (id n : Int) (X : List Ik) : (ofR id n X).length ≤ 4 := by
 unfold ofR; rw [ofL_len]; exact newL_small id n
theorem ofR_not {id n : Int} (X : List Ik) (h : nOk id n = false) : ofR id n X = [] ∧ newI id n = 0 := by
 have e1 : newI id n = 0 := by unfold newI; rw [h]; rfl
 have e2 : newL id n = [] := by unfold newL; rw [h]; rfl
 refine ⟨?_, e1⟩
 unfold ofR
 rw [e1, e2]
 exact ofL_not X (by decide)
def sayR (id n : Int) (X : List Ik) (i : Int) : List Ou := sayL (newI id n) (newL id n) X Ik.nil i
theorem sayR_len (id n : Int) (X : List Ik) (i : Int) : (sayR id n X i).length ≤ 8 := by
 unfold sayR sayL
 split
 ·
  exact reactO_len _ _ _
 ·
  simp
theorem BBox.put1 {w : World} {q : Nat} {id : Int} {v : Value} (h : BBox w q id v) (id' : Int) (v' : Value) (k : Nat) (hk : k ≠ q) : ((w.setCell ⟨q, 0, none⟩ (.int .i64 id')).setCell ⟨q, 1, none⟩ v').heap[k]? = w.heap[k]? := by
 rw [Below.heap_setCell _ _ _ _ hk, Below.heap_setCell _ _ _ _ hk]
end Go.Proofs.Ytnpiljegdiconaa
