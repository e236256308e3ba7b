/- spec.BridgeNew, walked. -/
import Derived.Test.YtbffdkjgadhdoaaRows
import Derived.WalkKit
import Derived.ProofKit
import Derived.OpenShut
import Derived.ShutString
import Derived.ChangeOld
import Derived.Below
import Derived.Deep.QuietTactic
import Derived.BigQuiet
import Derived.WalkSmall
import Derived.Laws.OwnMore
import Derived.WalkSpells
import Derived.WalkLawsBesides
import Derived.Deep.Cut
import Derived.Maps.AppendAt
import Derived.Test.YtbffdkjgadhdoaaBr9
namespace Go.Proofs.Ytbffdkjgadhdoaa
open Go.ChangeShapes Go.WideShapes Go.ChangeAt Go.RowKit
open Go.ChangeMaps (open_string shut_string)
set_option linter.unusedVariables false
set_option maxRecDepth 100000

set_option maxHeartbeats 4000000 in
theorem newBS (id n : Int) (w : World) :
    Calls Try.prog 30 #[.int .i64 id, .int .i64 n] w fun e w' => ∃ ad' cap', e = .returned (.tuple #[.agg #[.int .i64 (newI id n), .slice ad' (newL id n).length cap'], .bool (nOk id n)]) ∧ FOwn ptEnc 11 41 w.heap.size w' (.slice ad' (newL id n).length cap') (newL id n) ∧ Below w.heap.size w w' := by
  obtain ⟨i0, hi, hz0, hz1, hz2⟩ := info_parts ptInfo
  obtain ⟨y, hy⟩ : ∃ y, y = (w.alloc (Obj.cells #[.int .i64 0, .slice none 0 0] 26)).alloc (Obj.cells #[.int .i64 id, .slice none 0 0] 26) := ⟨_, rfl⟩
  have B0 : Below w.heap.size w y := by rw [hy]; exact ((Below.refl _ _).alloc (Nat.le_refl _) _).alloc (by simp) _
  have R0 : BBox y w.heap.size 0 (.slice none 0 0) := by rw [hy]; refine ⟨?_, fun i => ?_⟩; constructor <;> simp [go_sem]; simp [go_sem]
  have N0 : BBox y (w.heap.size + 1) id (.slice none 0 0) := by rw [hy]; refine ⟨?_, fun i => ?_⟩; constructor <;> simp [go_sem]; simp [go_sem]
  have S0 := N0.lt
  obtain ⟨IV, hI⟩ : ∃ v, v = newI id n := ⟨_, rfl⟩
  obtain ⟨LV, hM⟩ : ∃ v, v = newL id n := ⟨_, rfl⟩
  obtain ⟨NV, hN⟩ : ∃ v, v = nOk id n := ⟨_, rfl⟩
  rw [← hI, ← hM, ← hN]
  obtain ⟨m, hm⟩ : ∃ m : Nat, m = (if n < 5 then n else 5).toNat := ⟨_, rfl⟩
  have hm5 : m ≤ 5 := by rw [hm]; split <;> omega
  have hmn : nOk id n = nOk id (m : Int) := by
    unfold nOk
    congr 1
    apply decide_eq_decide.2
    rw [hm]
    split <;> omega
  have hmt : nOk id n = true → n.toNat = m := by
    intro h
    unfold nOk at h
    simp only [Bool.and_eq_true, decide_eq_true_eq] at h
    rw [hm, if_pos (by omega)]
  obtain ⟨t, ht⟩ : ∃ t : Int, t = (if n < 5 then n else 5) := ⟨_, rfl⟩
  have htm : t ≤ (m : Int) ∧ (0 ≤ t → t = (m : Int)) ∧ (t < 0 → m = 0) := by rw [ht, hm]; split <;> omega
  replace ht : Hid _ := ht
  replace hI : Hid _ := hI
  replace hM : Hid _ := hM
  replace hN : Hid _ := hN
  replace hmn : Hid _ := hmn
  replace hmt : Hid _ := hmt
  replace htm : Hid _ := htm
  clear hm
  go_enter Try.func30, Try.ntmps30
  go_wp2
  rw [← hy]
  clear hy
  go_loopw [7] (fun i wr => ∃ k : Nat, k ≤ m ∧ i = .int .i64 (k : Int) ∧ (∃ adk capk, FOwn ptEnc 11 41 y.heap.size wr (.slice adk k capk) (List.replicate k Pt.nil) ∧ BBox wr (w.heap.size + 1) id (.slice adk k capk)) ∧ BBox wr w.heap.size 0 (.slice none 0 0) ∧ Below w.heap.size w wr ∧ y.heap.size ≤ wr.heap.size) (fun i _ => m - (intOf i).toNat)
  case atStart => exact ⟨0, Nat.zero_le _, rfl, ⟨none, 0, FOwn.nil, N0⟩, R0, B0, Nat.le_refl _⟩
  case round =>
    obtain ⟨k, hk, rfl, ⟨adk, capk, O, N1⟩, R1, B1, S1⟩ := hrel
    obtain ⟨⟨n0, n1⟩, nf⟩ := N1
    have N1 : BBox wr (w.heap.size + 1) id (.slice adk k capk) := ⟨⟨n0, n1⟩, nf⟩
    by_cases hlt : (k : Int) < t
    · have dl : decide ((k : Int) < t) = true := decide_eq_true hlt
      have hkm : k < m := by have := htm.out; omega
      replace hlt : Hid _ := hlt
      go_wp2_with fail
      go_at_call 61
      refine (minS n 5 wr).mono ?_
      rintro e w2 ⟨rfl, rfl⟩
      rw [← ht.out]
      have V1 := FView.one w2 41 Pt.nil
      have B2 := B1.alloc B1.size (Obj.cells #[.bool false, .bool false, .int .i64 0, .int .i64 0, .int .i64 0, .int .i64 0, .int .i64 0, .int .i64 0, .int .i64 0, .int .i64 0, .bool false] 41)
      have O2 : FOwn ptEnc 11 41 y.heap.size (w2.alloc (Obj.cells #[.bool false, .bool false, .int .i64 0, .int .i64 0, .int .i64 0, .int .i64 0, .int .i64 0, .int .i64 0, .int .i64 0, .int .i64 0, .bool false] 41)) (.slice adk k capk) (List.replicate k Pt.nil) := O.later (below_new _)
      have hcn := O.capn
      go_wp2_with (first | (at_builtin; refine fappL ptEnc_len ptEnc_ones rfl _ _ 24 rfl y.heap.size 41 i0 (.agg #[.bool false, .bool false, .int .i64 0, .int .i64 0, .int .i64 0, .int .i64 0, .int .i64 0, .int .i64 0, .int .i64 0, .int .i64 0, .bool false]) 80 Try.underlying24 hi hz0 hz1 hz2 rfl (by decide) (by decide) (.slice adk k capk) (List.replicate k Pt.nil) rfl O2 (some ⟨w2.heap.size, 0, none⟩) 1 [Pt.nil] rfl (fun e => by cases e) V1 ?z0 ?z1 ?_) | go_in)
      case z0 => simp; omega
      case z1 => simp; omega
      intro vZ wZ hownZ hgrowZ _
      have hownZ : FOwn ptEnc 11 41 y.heap.size wZ vZ (List.replicate (k + 1) Pt.nil) := by rw [List.replicate_succ']; exact hownZ
      have ho : ∀ g, (Value.slice adk k capk).ownBlock = some g → y.heap.size ≤ g := fun g e => (O2.lt g e).1
      have BZ : Below w.heap.size w wZ := B2.grown hgrowZ B2.size (fun g e => by have := ho g e; omega)
      have NZ : BBox wZ (w.heap.size + 1) id (.slice adk k capk) := (N1.below (below_new _) N1.lt).keep (hgrowZ.block _ (by have := N1.lt; simp; omega) (fun e => by have := ho _ e.symm; omega))
      have RZ : BBox wZ w.heap.size 0 (.slice none 0 0) := (R1.below (below_new _) R1.lt).keep (hgrowZ.block _ (by have := R1.lt; simp; omega) (fun e => by have := ho _ e.symm; omega))
      have SZ : y.heap.size ≤ wZ.heap.size := by have := hgrowZ.size; simp at this; omega
      obtain ⟨aZ, cZ, hvz⟩ := hownZ.open_
      rw [List.length_replicate] at hvz
      subst hvz
      clear hgrowZ V1 B2 O2 n0 n1 nf N1 R1 O ho hcn
      obtain ⟨⟨q0, q1⟩, qf⟩ := NZ
      have NZ : BBox wZ (w.heap.size + 1) id (.slice adk k capk) := ⟨⟨q0, q1⟩, qf⟩
      have NS : BBox (wZ.setCell ⟨w.heap.size + 1, 1, none⟩ (.slice aZ (k + 1) cZ)) (w.heap.size + 1) id (.slice aZ (k + 1) cZ) := ⟨⟨(pset_else (by decide)).trans q0, pset_same q1⟩, fun i => by rw [World.frozen?_setCell]; exact qf i⟩
      have RS : BBox (wZ.setCell ⟨w.heap.size + 1, 1, none⟩ (.slice aZ (k + 1) cZ)) w.heap.size 0 (.slice none 0 0) := RZ.keep (Below.heap_setCell _ _ _ _ (by show w.heap.size ≠ w.heap.size + 1; omega))
      have OS : FOwn ptEnc 11 41 y.heap.size (wZ.setCell ⟨w.heap.size + 1, 1, none⟩ (.slice aZ (k + 1) cZ)) (.slice aZ (k + 1) cZ) (List.replicate (k + 1) Pt.nil) := hownZ.keep fun g' e => Below.heap_setCell _ _ _ _ (by have := (hownZ.lt g' e).1; show g' ≠ w.heap.size + 1; omega)
      have BS := BZ.setCell (p := ⟨w.heap.size + 1, 1, none⟩) (by show _ ≤ w.heap.size + 1; omega) (.slice aZ (k + 1) cZ)
      clear NZ RZ hownZ BZ
      go_wp2
      go_roundw
      case rel => exact ⟨k + 1, by omega, by go_num, ⟨aZ, cZ, OS, NS⟩, RS, BS, by simpa using SZ⟩
      case measure => simp [intOf]; omega
    · have dl : decide ((k : Int) < t) = false := decide_eq_false hlt
      have hkm : Hid (k = m) := by unfold Hid; have := htm.out; omega
      replace hlt : Hid _ := hlt
      go_wp2_with fail
      go_at_call 61
      refine (minS n 5 wr).mono ?_
      rintro e w2 ⟨rfl, rfl⟩
      rw [← ht.out]
      have hc := bOkS id adk capk (List.replicate k Pt.nil) w2 (by have := O.view.2; exact this) (by rw [List.length_replicate]; omega)
      rw [List.length_replicate, bOk_new, hkm.out, ← hmn.out, ← hkm.out] at hc
      go_wp2_with fail
      go_at_call 24
      refine hc.mono ?_
      rintro e w3 ⟨rfl, k3⟩
      have R3 := R1.below k3 R1.lt
      have N3 := N1.below k3 N1.lt
      have O3 := O.later k3
      have B3 := B1.trans (k3.mono B1.size)
      clear hc k3 n0 n1 nf R1 N1 O
      cases he : nOk id n with
      | false =>
        replace hI : Hid (IV = 0) := by unfold Hid; rw [hI.out]; unfold newI; rw [he]; rfl
        replace hM : Hid (LV = []) := by unfold Hid; rw [hM.out]; unfold newL; rw [he]; rfl
        replace hN : Hid (NV = false) := by unfold Hid; rw [hN.out, he]
        clear he
        have RP := R3.put 0 (.slice none 0 0)
        obtain ⟨⟨r0, r1⟩, rf⟩ := R3
        have BZ := (B3.setCell (p := ⟨w.heap.size, 0, none⟩) (Nat.le_refl w.heap.size) (.int .i64 0)).setCell (p := ⟨w.heap.size, 1, none⟩) (Nat.le_refl w.heap.size) (.slice none 0 0)
        obtain ⟨⟨p0, p1⟩, _⟩ := RP
        go_wp2
        refine bodyPost_ret (v := .tuple #[.agg #[.int .i64 0, .slice none 0 0], .bool false]) (by simp [results, Try.results30, go_sem, *]) rfl ⟨none, 0, by rw [hI.out, hM.out, hN.out]; rfl, by rw [hM.out]; exact FOwn.nil, BZ⟩
      | true =>
        have hRl : Hid (LV.length = k) := by unfold Hid; rw [hM.out]; unfold newL; rw [he, if_pos rfl, List.length_replicate, hmt.out he, hkm.out]
        replace hI : Hid (IV = id) := by unfold Hid; rw [hI.out]; unfold newI; rw [he]; rfl
        replace hM : Hid (LV = List.replicate k Pt.nil) := by unfold Hid; rw [hM.out]; unfold newL; rw [he, if_pos rfl, hmt.out he, hkm.out]
        replace hN : Hid (NV = true) := by unfold Hid; rw [hN.out, he]
        clear he hkm
        have RP := R3.put id (.slice adk k capk)
        obtain ⟨⟨r0, r1⟩, rf⟩ := R3
        obtain ⟨⟨n0, n1⟩, nf⟩ := N3
        have BZ := (B3.setCell (p := ⟨w.heap.size, 0, none⟩) (Nat.le_refl w.heap.size) (.int .i64 id)).setCell (p := ⟨w.heap.size, 1, none⟩) (Nat.le_refl w.heap.size) (.slice adk k capk)
        have OZ : FOwn ptEnc 11 41 w.heap.size ((w3.setCell ⟨w.heap.size, 0, none⟩ (.int .i64 id)).setCell ⟨w.heap.size, 1, none⟩ (.slice adk k capk)) (.slice adk k capk) (List.replicate k Pt.nil) := (O3.base (by omega)).keep fun g' e => by
          have := (O3.lt g' e).1
          rw [Below.heap_setCell _ _ _ _ (by show g' ≠ w.heap.size; omega), Below.heap_setCell _ _ _ _ (by show g' ≠ w.heap.size; omega)]
        obtain ⟨⟨p0, p1⟩, _⟩ := RP
        go_wp2
        refine bodyPost_ret (v := .tuple #[.agg #[.int .i64 id, .slice adk k capk], .bool true]) (by simp [results, Try.results30, go_sem, *]) rfl ⟨adk, capk, by rw [hI.out, hN.out, hRl.out], by rw [hRl.out, hM.out]; exact OZ, BZ⟩

end Go.Proofs.Ytbffdkjgadhdoaa
