/- For every slice of bytes the call of FnVlans returns true: both Outside, both Inside and both MemberOk answer alike at what is drawn of it, and what goes out by a drawn port comes in by it as it was (a slice of more than 1048576 bytes is answered true at once). No condition. -/
import Derived.Test.YtmeofihjimgldaaRows
import Derived.Test.YtmeofihjimgldaaVlanPre
import Derived.WalkKit
import Derived.WalkSmall
import Derived.ProofKit
import Derived.OpenShut
import Derived.ShutString
import Derived.ChangeOld
import Derived.Below
namespace Go.Proofs.Ytmeofihjimgldaa.fnVlans
open Go.ChangeShapes Go.WideShapes Go.ChangeAt Go.RowKit
open Go.ChangeMaps (open_string shut_string)
set_option linter.unusedVariables false

theorem own : ownKnob Try.prog.godebug = none := by kernel_rfl
theorem laidOut : laidOutB Try.prog = true := by kernel_rfl

/-- WHAT THE WALK IS TOLD OF A SLICE OF INTEGERS THAT CAME IN: it is nil; or it leads to a row of 'cap' cells, the numbers 'zs' (the first 'len' are its elements, the rest its spare room), each fitting its kind. -/
def IsRow (k : IntKind) (w : World) (a : Option Addr) (len cap : Nat) (zs : List Int) : Prop :=
  (a = none ∧ len = 0 ∧ cap = 0 ∧ zs = []) ∨
  ∃ x, a = some x ∧ len ≤ cap ∧ cap ≤ maxLen ∧ zs.length = cap ∧ (∀ i, i < zs.length → w.cell? (x.add i) = some (.int k (zs.getD i 0))) ∧ ∀ n ∈ zs, (Lit.int k n).wf = true

set_option maxRecDepth 100000 in
set_option maxHeartbeats 16000000 in
theorem walk (a0 : Option Addr) (len0 cap0 : Nat) (z0 : List Int) (w : World) (w0 : IsRow .u8 w a0 len0 cap0 z0) :
    Calls Try.prog 3 #[.slice a0 len0 cap0] w fun e w' => e = .returned (.bool true) ∧ Below w.heap.size w w' := by
  have key : View w a0 len0 (fun i => z0.getD i 0) ∧ (∀ a, a0 = some a → 0 < len0 → a.block < w.heap.size) ∧ ∀ i, 0 ≤ z0.getD i 0 ∧ z0.getD i 0 ≤ 255 := by
    rcases w0 with ⟨rfl, rfl, rfl, rfl⟩ | ⟨x, rfl, hl, hm, hz, hcell, hwz⟩
    · exact ⟨fun h => absurd h (by omega), fun a h => by simp at h, fun i => by simp⟩
    · refine ⟨fun hp => ?_, fun a h hp => ?_, fun i => ?_⟩
      · obtain ⟨b, off, rfl, hc⟩ := ints_at hcell (by omega)
        exact ⟨b, off, rfl, fun i hi => hc i (by omega)⟩
      · obtain rfl : x = a := by simpa using h
        have hc := hcell 0 (by omega)
        simpa [Addr.add] using World.block_lt_of_cell? w _ hc
      · by_cases hi : i < z0.length
        · have := bounds_u8 (hwz (z0.getD i 0) (by simp [List.getD, hi]))
          exact this
        · simp [List.getD, List.getElem?_eq_none (by omega : z0.length ≤ i)]
  obtain ⟨hv, hB, hf⟩ := key
  obtain ⟨f, hfe⟩ : ∃ f : Nat → Int, f = fun i => z0.getD i 0 := ⟨_, rfl⟩
  rw [← hfe] at hv
  have hf' : ∀ i, 0 ≤ f i ∧ f i ≤ 255 := fun i => by rw [hfe]; exact hf i
  clear hfe hf w0
  by_cases hbig : 1048576 < len0
  · have hbi : (1048576 : Int) < (len0 : Int) := by omega
    go_enter Try.func3, Try.ntmps3
    go_wp2_with fail
    go_at_call 7
    refine (bigYes a0 len0 cap0 w hbi).mono ?_
    rintro e w1 ⟨rfl, h1⟩
    rw [h1]
    clear h1 w1
    go_wp2
    go_ret
    exact ⟨rfl, Below.refl _ _⟩
  have hl0 : len0 ≤ 1048576 := by omega
  have hC : Code0 w a0 len0 f := ⟨hv, hB, hl0, hf'⟩
  clear hbig hv hB hf'
  go_enter Try.func3, Try.ntmps3
  go_wp2_with fail
  go_at_call 7
  refine (bigNo a0 len0 cap0 w hl0).mono ?_
  rintro e w1 ⟨rfl, h1⟩
  rw [h1]
  clear h1 w1
  have BW : Below w.heap.size w w := Below.refl _ _
  go_wp2_with fail
  go_at_call 8
  refine (drawOut a0 len0 cap0 f w (hC.later BW (Nat.le_refl _))).mono ?_
  rintro e x1 ⟨ownA, LMA, adMA, capMA, aA, bA, cA, LA, adLA, capLA, rfl, oM, oL, hLbA, hLMA, hLA, kx1⟩
  obtain ⟨vMA, _, mMA⟩ := own_viewI2 oM
  obtain ⟨qLA, _, mLA⟩ := own_view2 oL
  have nLA := (own_nil oL).1
  clear oM oL
  have sx1 := kx1.size
  have BW := BW.trans (kx1.mono BW.size)
  obtain ⟨x2, hprev⟩ : ∃ z, z = (x1.alloc (Obj.cells #[.int .i64 ownA, .slice adMA LMA.length capMA] 26)).alloc (Obj.cells #[.int .i64 aA, .int .i64 bA, .int .i64 cA, .slice adLA LA.length capLA] 28) := ⟨_, rfl⟩
  have kx2 : Below x1.heap.size x1 x2 := by rw [hprev]; exact ((Below.refl _ _).alloc (Nat.le_refl _) _).alloc (by simp) _
  have sx2 : x1.heap.size + 1 < x2.heap.size := by rw [hprev]; simp
  have MA : MemAt x2 x1.heap.size ownA adMA LMA.length capMA := by rw [hprev]; refine ⟨?_, ?_⟩ <;> simp [go_sem]
  have FA : FrameAt x2 (x1.heap.size + 1) aA bA cA adLA LA.length capLA := by rw [hprev]; refine ⟨?_, ?_, ?_, ?_⟩ <;> simp [go_sem]
  have vMA := vMA.carry (w' := x2) (fun x h _ => kx2.block _ (by have := mMA x h; omega))
  have qLA := qLA.carry (w' := x2) (fun x h _ => kx2.block _ (by have := mLA x h; omega))
  have BW := BW.trans (kx2.mono BW.size)
  have hbdA := outR_bd (own := ownA) (f := fun i => LMA.getD i 0) (n := LMA.length) (a := aA) (b := bA) (c := cA) hLbA
  have hrlA := outR_len ownA (fun i => LMA.getD i 0) LMA.length aA bA cA LA
  obtain ⟨r, hrA⟩ : ∃ r, Hid (outR ownA (fun i => LMA.getD i 0) LMA.length aA bA cA LA = r) := ⟨_, rfl⟩
  rw [hrA.out] at hbdA hrlA
  obtain ⟨raA, rbA, rcA, rMA, rokA⟩ := r
  simp only [] at hbdA hrlA
  have M' := MA
  have F' := FA
  obtain ⟨X1, X2⟩ := M'
  obtain ⟨Y1, Y2, Y3, Y4⟩ := F'
  go_wp2_with fail
  go_at_call 9
  rw [← hprev]
  clear hprev X1 X2 Y1 Y2 Y3 Y4
  refine (outsideI ownA adMA LMA.length capMA (fun i => LMA.getD i 0) aA bA cA adLA capLA LA x2 vMA (by unfold maxLen; omega) qLA (by omega)).mono ?_
  rintro e x3 ⟨ad5, cap5, rfl, oL, kx3⟩
  rw [hrA.out] at oL ⊢
  simp only [] at oL ⊢
  obtain ⟨q5, _, m5⟩ := own_view2 oL
  clear oL
  have sx3 := kx3.size
  have vMA := vMA.carry (w' := x3) (fun x h _ => kx3.block _ (by have := mMA x h; omega))
  have qLA := qLA.carry (w' := x3) (fun x h _ => kx3.block _ (by have := mLA x h; omega))
  have MA := MA.below kx3 (by omega)
  have FA := FA.below kx3 (by omega)
  have BW := BW.trans (kx3.mono BW.size)
  obtain ⟨x4, hprev⟩ : ∃ z, z = x3.alloc (Obj.cells #[.int .i64 raA, .int .i64 rbA, .int .i64 rcA, .slice ad5 rMA.length cap5] 28) := ⟨_, rfl⟩
  have kx4 : Below x3.heap.size x3 x4 := by rw [hprev]; exact below_box x3 _
  have sx4 : x3.heap.size < x4.heap.size := by rw [hprev]; exact size_box x3 _
  have F5 : FrameAt x4 x3.heap.size raA rbA rcA ad5 rMA.length cap5 := by rw [hprev]; exact frameAt_box x3 _ _ _ _ _ _ _
  have vMA := vMA.carry (w' := x4) (fun x h _ => kx4.block _ (by have := mMA x h; omega))
  have qLA := qLA.carry (w' := x4) (fun x h _ => kx4.block _ (by have := mLA x h; omega))
  have MA := MA.below kx4 (by omega)
  have FA := FA.below kx4 (by omega)
  have q5 := q5.carry (w' := x4) (fun x h _ => kx4.block _ (by have := m5 x h; omega))
  have BW := BW.trans (kx4.mono BW.size)
  have M' := MA
  have F' := FA
  obtain ⟨X1, X2⟩ := M'
  obtain ⟨Y1, Y2, Y3, Y4⟩ := F'
  rw [hprev] at X1 X2 Y1 Y2 Y3 Y4
  go_wp2_with fail
  go_at_call 10
  rw [← hprev]
  clear hprev X1 X2 Y1 Y2 Y3 Y4
  refine (outsideS ownA adMA LMA.length capMA (fun i => LMA.getD i 0) aA bA cA adLA capLA LA x4 vMA (by unfold maxLen; omega) qLA (by omega) (fun _ h => nLA h)).mono ?_
  rintro e x5 ⟨ad7, cap7, rfl, oL, kx5⟩
  rw [hrA.out] at oL ⊢
  simp only [] at oL ⊢
  obtain ⟨q7, _, m7⟩ := own_view2 oL
  clear oL
  have sx5 := kx5.size
  have vMA := vMA.carry (w' := x5) (fun x h _ => kx5.block _ (by have := mMA x h; omega))
  have qLA := qLA.carry (w' := x5) (fun x h _ => kx5.block _ (by have := mLA x h; omega))
  have MA := MA.below kx5 (by omega)
  have FA := FA.below kx5 (by omega)
  have q5 := q5.carry (w' := x5) (fun x h _ => kx5.block _ (by have := m5 x h; omega))
  have F5 := F5.below kx5 (by omega)
  have BW := BW.trans (kx5.mono BW.size)
  obtain ⟨x6, hprev⟩ : ∃ z, z = x5.alloc (Obj.cells #[.int .i64 raA, .int .i64 rbA, .int .i64 rcA, .slice ad7 rMA.length cap7] 28) := ⟨_, rfl⟩
  have kx6 : Below x5.heap.size x5 x6 := by rw [hprev]; exact below_box x5 _
  have sx6 : x5.heap.size < x6.heap.size := by rw [hprev]; exact size_box x5 _
  have F7 : FrameAt x6 x5.heap.size raA rbA rcA ad7 rMA.length cap7 := by rw [hprev]; exact frameAt_box x5 _ _ _ _ _ _ _
  have vMA := vMA.carry (w' := x6) (fun x h _ => kx6.block _ (by have := mMA x h; omega))
  have qLA := qLA.carry (w' := x6) (fun x h _ => kx6.block _ (by have := mLA x h; omega))
  have MA := MA.below kx6 (by omega)
  have FA := FA.below kx6 (by omega)
  have q5 := q5.carry (w' := x6) (fun x h _ => kx6.block _ (by have := m5 x h; omega))
  have F5 := F5.below kx6 (by omega)
  have q7 := q7.carry (w' := x6) (fun x h _ => kx6.block _ (by have := m7 x h; omega))
  have BW := BW.trans (kx6.mono BW.size)
  go_wp2_with fail
  go_at_call 11
  rw [← hprev]
  clear hprev
  refine (drawIn a0 len0 cap0 f x6 (hC.later BW (Nat.le_refl _))).mono ?_
  rintro e x7 ⟨ownB, LMB, adMB, capMB, aB, bB, cB, LB, adLB, capLB, rfl, oM, oL, hLbB, hLMB, hLB, kx7⟩
  obtain ⟨vMB, _, mMB⟩ := own_viewI2 oM
  obtain ⟨qLB, _, mLB⟩ := own_view2 oL
  have nLB := (own_nil oL).1
  clear oM oL
  have sx7 := kx7.size
  have vMA := vMA.carry (w' := x7) (fun x h _ => kx7.block _ (by have := mMA x h; omega))
  have qLA := qLA.carry (w' := x7) (fun x h _ => kx7.block _ (by have := mLA x h; omega))
  have MA := MA.below kx7 (by omega)
  have FA := FA.below kx7 (by omega)
  have q5 := q5.carry (w' := x7) (fun x h _ => kx7.block _ (by have := m5 x h; omega))
  have F5 := F5.below kx7 (by omega)
  have q7 := q7.carry (w' := x7) (fun x h _ => kx7.block _ (by have := m7 x h; omega))
  have F7 := F7.below kx7 (by omega)
  have BW := BW.trans (kx7.mono BW.size)
  obtain ⟨x8, hprev⟩ : ∃ z, z = (x7.alloc (Obj.cells #[.int .i64 ownB, .slice adMB LMB.length capMB] 26)).alloc (Obj.cells #[.int .i64 aB, .int .i64 bB, .int .i64 cB, .slice adLB LB.length capLB] 28) := ⟨_, rfl⟩
  have kx8 : Below x7.heap.size x7 x8 := by rw [hprev]; exact ((Below.refl _ _).alloc (Nat.le_refl _) _).alloc (by simp) _
  have sx8 : x7.heap.size + 1 < x8.heap.size := by rw [hprev]; simp
  have MB : MemAt x8 x7.heap.size ownB adMB LMB.length capMB := by rw [hprev]; refine ⟨?_, ?_⟩ <;> simp [go_sem]
  have FB : FrameAt x8 (x7.heap.size + 1) aB bB cB adLB LB.length capLB := by rw [hprev]; refine ⟨?_, ?_, ?_, ?_⟩ <;> simp [go_sem]
  have vMA := vMA.carry (w' := x8) (fun x h _ => kx8.block _ (by have := mMA x h; omega))
  have qLA := qLA.carry (w' := x8) (fun x h _ => kx8.block _ (by have := mLA x h; omega))
  have MA := MA.below kx8 (by omega)
  have FA := FA.below kx8 (by omega)
  have q5 := q5.carry (w' := x8) (fun x h _ => kx8.block _ (by have := m5 x h; omega))
  have F5 := F5.below kx8 (by omega)
  have q7 := q7.carry (w' := x8) (fun x h _ => kx8.block _ (by have := m7 x h; omega))
  have F7 := F7.below kx8 (by omega)
  have vMB := vMB.carry (w' := x8) (fun x h _ => kx8.block _ (by have := mMB x h; omega))
  have qLB := qLB.carry (w' := x8) (fun x h _ => kx8.block _ (by have := mLB x h; omega))
  have BW := BW.trans (kx8.mono BW.size)
  have hbdB := insR_bd (own := ownB) (f := fun i => LMB.getD i 0) (n := LMB.length) (a := aB) (b := bB) (c := cB) hLbB
  have hrlB := insR_len ownB (fun i => LMB.getD i 0) LMB.length aB bB cB LB
  obtain ⟨r, hrB⟩ : ∃ r, Hid (insR ownB (fun i => LMB.getD i 0) LMB.length aB bB cB LB = r) := ⟨_, rfl⟩
  rw [hrB.out] at hbdB hrlB
  obtain ⟨raB, rbB, rcB, rMB, rokB⟩ := r
  simp only [] at hbdB hrlB
  have M' := MB
  have F' := FB
  obtain ⟨X1, X2⟩ := M'
  obtain ⟨Y1, Y2, Y3, Y4⟩ := F'
  go_wp2_with fail
  go_at_call 12
  rw [← hprev]
  clear hprev X1 X2 Y1 Y2 Y3 Y4
  refine (insideI ownB adMB LMB.length capMB (fun i => LMB.getD i 0) aB bB cB adLB capLB LB x8 vMB (by unfold maxLen; omega) qLB (by omega)).mono ?_
  rintro e x9 ⟨ad11, cap11, rfl, oL, kx9⟩
  rw [hrB.out] at oL ⊢
  simp only [] at oL ⊢
  obtain ⟨q11, _, m11⟩ := own_view2 oL
  clear oL
  have sx9 := kx9.size
  have vMA := vMA.carry (w' := x9) (fun x h _ => kx9.block _ (by have := mMA x h; omega))
  have qLA := qLA.carry (w' := x9) (fun x h _ => kx9.block _ (by have := mLA x h; omega))
  have MA := MA.below kx9 (by omega)
  have FA := FA.below kx9 (by omega)
  have q5 := q5.carry (w' := x9) (fun x h _ => kx9.block _ (by have := m5 x h; omega))
  have F5 := F5.below kx9 (by omega)
  have q7 := q7.carry (w' := x9) (fun x h _ => kx9.block _ (by have := m7 x h; omega))
  have F7 := F7.below kx9 (by omega)
  have vMB := vMB.carry (w' := x9) (fun x h _ => kx9.block _ (by have := mMB x h; omega))
  have qLB := qLB.carry (w' := x9) (fun x h _ => kx9.block _ (by have := mLB x h; omega))
  have MB := MB.below kx9 (by omega)
  have FB := FB.below kx9 (by omega)
  have BW := BW.trans (kx9.mono BW.size)
  obtain ⟨x10, hprev⟩ : ∃ z, z = x9.alloc (Obj.cells #[.int .i64 raB, .int .i64 rbB, .int .i64 rcB, .slice ad11 rMB.length cap11] 28) := ⟨_, rfl⟩
  have kx10 : Below x9.heap.size x9 x10 := by rw [hprev]; exact below_box x9 _
  have sx10 : x9.heap.size < x10.heap.size := by rw [hprev]; exact size_box x9 _
  have F11 : FrameAt x10 x9.heap.size raB rbB rcB ad11 rMB.length cap11 := by rw [hprev]; exact frameAt_box x9 _ _ _ _ _ _ _
  have vMA := vMA.carry (w' := x10) (fun x h _ => kx10.block _ (by have := mMA x h; omega))
  have qLA := qLA.carry (w' := x10) (fun x h _ => kx10.block _ (by have := mLA x h; omega))
  have MA := MA.below kx10 (by omega)
  have FA := FA.below kx10 (by omega)
  have q5 := q5.carry (w' := x10) (fun x h _ => kx10.block _ (by have := m5 x h; omega))
  have F5 := F5.below kx10 (by omega)
  have q7 := q7.carry (w' := x10) (fun x h _ => kx10.block _ (by have := m7 x h; omega))
  have F7 := F7.below kx10 (by omega)
  have vMB := vMB.carry (w' := x10) (fun x h _ => kx10.block _ (by have := mMB x h; omega))
  have qLB := qLB.carry (w' := x10) (fun x h _ => kx10.block _ (by have := mLB x h; omega))
  have MB := MB.below kx10 (by omega)
  have FB := FB.below kx10 (by omega)
  have q11 := q11.carry (w' := x10) (fun x h _ => kx10.block _ (by have := m11 x h; omega))
  have BW := BW.trans (kx10.mono BW.size)
  have M' := MB
  have F' := FB
  obtain ⟨X1, X2⟩ := M'
  obtain ⟨Y1, Y2, Y3, Y4⟩ := F'
  rw [hprev] at X1 X2 Y1 Y2 Y3 Y4
  go_wp2_with fail
  go_at_call 13
  rw [← hprev]
  clear hprev X1 X2 Y1 Y2 Y3 Y4
  refine (insideS ownB adMB LMB.length capMB (fun i => LMB.getD i 0) aB bB cB adLB capLB LB x10 vMB (by unfold maxLen; omega) qLB (by omega) (fun _ h => nLB h)).mono ?_
  rintro e x11 ⟨ad13, cap13, rfl, oL, kx11⟩
  rw [hrB.out] at oL ⊢
  simp only [] at oL ⊢
  obtain ⟨q13, _, m13⟩ := own_view2 oL
  clear oL
  have sx11 := kx11.size
  have vMA := vMA.carry (w' := x11) (fun x h _ => kx11.block _ (by have := mMA x h; omega))
  have qLA := qLA.carry (w' := x11) (fun x h _ => kx11.block _ (by have := mLA x h; omega))
  have MA := MA.below kx11 (by omega)
  have FA := FA.below kx11 (by omega)
  have q5 := q5.carry (w' := x11) (fun x h _ => kx11.block _ (by have := m5 x h; omega))
  have F5 := F5.below kx11 (by omega)
  have q7 := q7.carry (w' := x11) (fun x h _ => kx11.block _ (by have := m7 x h; omega))
  have F7 := F7.below kx11 (by omega)
  have vMB := vMB.carry (w' := x11) (fun x h _ => kx11.block _ (by have := mMB x h; omega))
  have qLB := qLB.carry (w' := x11) (fun x h _ => kx11.block _ (by have := mLB x h; omega))
  have MB := MB.below kx11 (by omega)
  have FB := FB.below kx11 (by omega)
  have q11 := q11.carry (w' := x11) (fun x h _ => kx11.block _ (by have := m11 x h; omega))
  have F11 := F11.below kx11 (by omega)
  have BW := BW.trans (kx11.mono BW.size)
  obtain ⟨x12, hprev⟩ : ∃ z, z = x11.alloc (Obj.cells #[.int .i64 raB, .int .i64 rbB, .int .i64 rcB, .slice ad13 rMB.length cap13] 28) := ⟨_, rfl⟩
  have kx12 : Below x11.heap.size x11 x12 := by rw [hprev]; exact below_box x11 _
  have sx12 : x11.heap.size < x12.heap.size := by rw [hprev]; exact size_box x11 _
  have F13 : FrameAt x12 x11.heap.size raB rbB rcB ad13 rMB.length cap13 := by rw [hprev]; exact frameAt_box x11 _ _ _ _ _ _ _
  have vMA := vMA.carry (w' := x12) (fun x h _ => kx12.block _ (by have := mMA x h; omega))
  have qLA := qLA.carry (w' := x12) (fun x h _ => kx12.block _ (by have := mLA x h; omega))
  have MA := MA.below kx12 (by omega)
  have FA := FA.below kx12 (by omega)
  have q5 := q5.carry (w' := x12) (fun x h _ => kx12.block _ (by have := m5 x h; omega))
  have F5 := F5.below kx12 (by omega)
  have q7 := q7.carry (w' := x12) (fun x h _ => kx12.block _ (by have := m7 x h; omega))
  have F7 := F7.below kx12 (by omega)
  have vMB := vMB.carry (w' := x12) (fun x h _ => kx12.block _ (by have := mMB x h; omega))
  have qLB := qLB.carry (w' := x12) (fun x h _ => kx12.block _ (by have := mLB x h; omega))
  have MB := MB.below kx12 (by omega)
  have FB := FB.below kx12 (by omega)
  have q11 := q11.carry (w' := x12) (fun x h _ => kx12.block _ (by have := m11 x h; omega))
  have F11 := F11.below kx12 (by omega)
  have q13 := q13.carry (w' := x12) (fun x h _ => kx12.block _ (by have := m13 x h; omega))
  have BW := BW.trans (kx12.mono BW.size)
  go_wp2_with fail
  go_at_call 14
  rw [← hprev]
  clear hprev
  refine (drawMem a0 len0 cap0 f x12 (hC.later BW (Nat.le_refl _))).mono ?_
  rintro e x13 ⟨ownC, LMC, adMC, capMC, rfl, oM, hLMC, kx13⟩
  obtain ⟨vMC, _, mMC⟩ := own_viewI2 oM
  clear oM
  have sx13 := kx13.size
  have vMA := vMA.carry (w' := x13) (fun x h _ => kx13.block _ (by have := mMA x h; omega))
  have qLA := qLA.carry (w' := x13) (fun x h _ => kx13.block _ (by have := mLA x h; omega))
  have MA := MA.below kx13 (by omega)
  have FA := FA.below kx13 (by omega)
  have q5 := q5.carry (w' := x13) (fun x h _ => kx13.block _ (by have := m5 x h; omega))
  have F5 := F5.below kx13 (by omega)
  have q7 := q7.carry (w' := x13) (fun x h _ => kx13.block _ (by have := m7 x h; omega))
  have F7 := F7.below kx13 (by omega)
  have vMB := vMB.carry (w' := x13) (fun x h _ => kx13.block _ (by have := mMB x h; omega))
  have qLB := qLB.carry (w' := x13) (fun x h _ => kx13.block _ (by have := mLB x h; omega))
  have MB := MB.below kx13 (by omega)
  have FB := FB.below kx13 (by omega)
  have q11 := q11.carry (w' := x13) (fun x h _ => kx13.block _ (by have := m11 x h; omega))
  have F11 := F11.below kx13 (by omega)
  have q13 := q13.carry (w' := x13) (fun x h _ => kx13.block _ (by have := m13 x h; omega))
  have F13 := F13.below kx13 (by omega)
  have BW := BW.trans (kx13.mono BW.size)
  obtain ⟨x14, hprev⟩ : ∃ z, z = x13.alloc (Obj.cells #[.int .i64 ownC, .slice adMC LMC.length capMC] 26) := ⟨_, rfl⟩
  have kx14 : Below x13.heap.size x13 x14 := by rw [hprev]; exact below_box x13 _
  have sx14 : x13.heap.size < x14.heap.size := by rw [hprev]; exact size_box x13 _
  have MC : MemAt x14 x13.heap.size ownC adMC LMC.length capMC := by rw [hprev]; exact memAt_box x13 _ _ _ _ _
  have vMA := vMA.carry (w' := x14) (fun x h _ => kx14.block _ (by have := mMA x h; omega))
  have qLA := qLA.carry (w' := x14) (fun x h _ => kx14.block _ (by have := mLA x h; omega))
  have MA := MA.below kx14 (by omega)
  have FA := FA.below kx14 (by omega)
  have q5 := q5.carry (w' := x14) (fun x h _ => kx14.block _ (by have := m5 x h; omega))
  have F5 := F5.below kx14 (by omega)
  have q7 := q7.carry (w' := x14) (fun x h _ => kx14.block _ (by have := m7 x h; omega))
  have F7 := F7.below kx14 (by omega)
  have vMB := vMB.carry (w' := x14) (fun x h _ => kx14.block _ (by have := mMB x h; omega))
  have qLB := qLB.carry (w' := x14) (fun x h _ => kx14.block _ (by have := mLB x h; omega))
  have MB := MB.below kx14 (by omega)
  have FB := FB.below kx14 (by omega)
  have q11 := q11.carry (w' := x14) (fun x h _ => kx14.block _ (by have := m11 x h; omega))
  have F11 := F11.below kx14 (by omega)
  have q13 := q13.carry (w' := x14) (fun x h _ => kx14.block _ (by have := m13 x h; omega))
  have F13 := F13.below kx14 (by omega)
  have vMC := vMC.carry (w' := x14) (fun x h _ => kx14.block _ (by have := mMC x h; omega))
  have BW := BW.trans (kx14.mono BW.size)
  go_wp2_with fail
  rw [← hprev]
  clear hprev
  refine wp_region_held (S := fun Y => Below x14.heap.size x14 Y) (by kernel_rfl) ?_
  change wpAnyH _ _ _ _ _ _ _ _ (World.drew _)
  have hb0 : Below x14.heap.size x14 x14.drew := (Below.refl _ _).drew
  refine takeW 0 56 (.bool rokA) rfl rfl (by kernel_rfl) (by kernel_rfl) (by kernel_rfl) (fun _ _ _ h => h) (by kernel_rfl) (by (intro w hSw; go_simp)) (by assumption) ?_
  simp only [List.set_cons_zero, List.set_cons_succ]
  refine takeW 1 57 (.bool rokA) rfl rfl (by kernel_rfl) (by kernel_rfl) (by kernel_rfl) (fun _ _ _ h => h) (by kernel_rfl) (by (intro w hSw; go_simp)) (by assumption) ?_
  simp only [List.set_cons_zero, List.set_cons_succ]
  refine takeW 2 58 (.bool false) rfl rfl (by kernel_rfl) (by kernel_rfl) (by kernel_rfl) (fun _ _ _ h => h) (by kernel_rfl) (by (intro Y hSw; go_simp)) (by assumption) ?_
  simp only [List.set_cons_zero, List.set_cons_succ]
  refine takeW 3 59 (.bool false) rfl rfl (by kernel_rfl) (by kernel_rfl) (by kernel_rfl) (fun _ _ _ h => h) (by kernel_rfl) (by (intro w hSw; go_simp)) (by assumption) ?_
  simp only [List.set_cons_zero, List.set_cons_succ]
  refine takeW 4 60 (.agg #[.int .i64 raA, .int .i64 rbA, .int .i64 rcA, .slice ad5 rMA.length cap5]) rfl rfl (by kernel_rfl) (by kernel_rfl) (by kernel_rfl) (fun _ _ _ h => h) (by kernel_rfl) (by (intro Y hSw; obtain ⟨C1, C2, C3, C4⟩ := F5.below hSw (by omega); go_simp)) (by assumption) ?_
  simp only [List.set_cons_zero, List.set_cons_succ]
  refine takeW 5 61 (.agg #[.int .i64 raA, .int .i64 rbA, .int .i64 rcA, .slice ad7 rMA.length cap7]) rfl rfl (by kernel_rfl) (by kernel_rfl) (by kernel_rfl) (fun _ _ _ h => h) (by kernel_rfl) (by (intro Y hSw; obtain ⟨C1, C2, C3, C4⟩ := F7.below hSw (by omega); go_simp)) (by assumption) ?_
  simp only [List.set_cons_zero, List.set_cons_succ]
  refine wpAnyH_all (rs := [6]) (by kernel_rfl) (by simp) ?_
  intro i hi; obtain rfl : i = 6 := by simpa using hi
  refine wpOp_step rfl (fun K hK => ?_)
  rw [if_pos (by kernel_rfl)]
  go_simp
  go_at_call 15
  refine (sameImpl raA rbA rcA raA rbA rcA ad5 ad7 rMA.length cap5 rMA.length cap7 (fun i => rMA.getD i 0) (fun i => rMA.getD i 0) _ (q5.carry (fun x e _ => hb0.block _ (by have := m5 x e; omega))) (q7.carry (fun x e _ => hb0.block _ (by have := m7 x e; omega))) (getD_bd hbdA) (getD_bd hbdA)).mono ?_
  rintro e y1 ⟨rfl, kz1⟩
  rw [same_refl]
  have hb1 : Below x14.heap.size x14 y1 := hb0.trans (kz1.mono hb0.size)
  refine hK _ _ ⟨hb1, ?_⟩
  clear hK K hi
  refine takeW 7 63 (.bool false) rfl rfl (by kernel_rfl) (by kernel_rfl) (by kernel_rfl) (fun _ _ _ h => h) (by kernel_rfl) (by (intro w hSw; go_simp)) (by assumption) ?_
  simp only [List.set_cons_zero, List.set_cons_succ]
  refine takeW 8 64 (.bool false) rfl rfl (by kernel_rfl) (by kernel_rfl) (by kernel_rfl) (fun _ _ _ h => h) (by kernel_rfl) (by (intro w hSw; go_simp)) (by assumption) ?_
  simp only [List.set_cons_zero, List.set_cons_succ]
  refine takeW 9 65 (.bool false) rfl rfl (by kernel_rfl) (by kernel_rfl) (by kernel_rfl) (fun _ _ _ h => h) (by kernel_rfl) (by (intro w hSw; go_simp)) (by assumption) ?_
  simp only [List.set_cons_zero, List.set_cons_succ]
  refine takeW 10 66 (.bool rokB) rfl rfl (by kernel_rfl) (by kernel_rfl) (by kernel_rfl) (fun _ _ _ h => h) (by kernel_rfl) (by (intro w hSw; go_simp)) (by assumption) ?_
  simp only [List.set_cons_zero, List.set_cons_succ]
  refine takeW 11 67 (.bool rokB) rfl rfl (by kernel_rfl) (by kernel_rfl) (by kernel_rfl) (fun _ _ _ h => h) (by kernel_rfl) (by (intro w hSw; go_simp)) (by assumption) ?_
  simp only [List.set_cons_zero, List.set_cons_succ]
  refine takeW 12 68 (.bool false) rfl rfl (by kernel_rfl) (by kernel_rfl) (by kernel_rfl) (fun _ _ _ h => h) (by kernel_rfl) (by (intro Y hSw; go_simp)) (by assumption) ?_
  simp only [List.set_cons_zero, List.set_cons_succ]
  refine takeW 13 69 (.bool false) rfl rfl (by kernel_rfl) (by kernel_rfl) (by kernel_rfl) (fun _ _ _ h => h) (by kernel_rfl) (by (intro w hSw; go_simp)) (by assumption) ?_
  simp only [List.set_cons_zero, List.set_cons_succ]
  refine takeW 14 70 (.bool false) rfl rfl (by kernel_rfl) (by kernel_rfl) (by kernel_rfl) (fun _ _ _ h => h) (by kernel_rfl) (by (intro w hSw; go_simp)) (by assumption) ?_
  simp only [List.set_cons_zero, List.set_cons_succ]
  refine takeW 15 71 (.agg #[.int .i64 raB, .int .i64 rbB, .int .i64 rcB, .slice ad11 rMB.length cap11]) rfl rfl (by kernel_rfl) (by kernel_rfl) (by kernel_rfl) (fun _ _ _ h => h) (by kernel_rfl) (by (intro Y hSw; obtain ⟨C1, C2, C3, C4⟩ := F11.below hSw (by omega); go_simp)) (by assumption) ?_
  simp only [List.set_cons_zero, List.set_cons_succ]
  refine takeW 16 72 (.agg #[.int .i64 raB, .int .i64 rbB, .int .i64 rcB, .slice ad13 rMB.length cap13]) rfl rfl (by kernel_rfl) (by kernel_rfl) (by kernel_rfl) (fun _ _ _ h => h) (by kernel_rfl) (by (intro Y hSw; obtain ⟨C1, C2, C3, C4⟩ := F13.below hSw (by omega); go_simp)) (by assumption) ?_
  simp only [List.set_cons_zero, List.set_cons_succ]
  refine wpAnyH_all (rs := [17]) (by kernel_rfl) (by simp) ?_
  intro i hi; obtain rfl : i = 17 := by simpa using hi
  refine wpOp_step rfl (fun K hK => ?_)
  rw [if_pos (by kernel_rfl)]
  go_simp
  go_at_call 15
  refine (sameImpl raB rbB rcB raB rbB rcB ad11 ad13 rMB.length cap11 rMB.length cap13 (fun i => rMB.getD i 0) (fun i => rMB.getD i 0) _ (q11.carry (fun x e _ => hb1.block _ (by have := m11 x e; omega))) (q13.carry (fun x e _ => hb1.block _ (by have := m13 x e; omega))) (getD_bd hbdB) (getD_bd hbdB)).mono ?_
  rintro e y2 ⟨rfl, kz2⟩
  rw [same_refl]
  have hb2 : Below x14.heap.size x14 y2 := hb1.trans (kz2.mono hb1.size)
  refine hK _ _ ⟨hb2, ?_⟩
  clear hK K hi
  refine takeW 18 74 (.bool false) rfl rfl (by kernel_rfl) (by kernel_rfl) (by kernel_rfl) (fun _ _ _ h => h) (by kernel_rfl) (by (intro w hSw; go_simp)) (by assumption) ?_
  simp only [List.set_cons_zero, List.set_cons_succ]
  refine takeW 19 75 (.bool false) rfl rfl (by kernel_rfl) (by kernel_rfl) (by kernel_rfl) (fun _ _ _ h => h) (by kernel_rfl) (by (intro w hSw; go_simp)) (by assumption) ?_
  simp only [List.set_cons_zero, List.set_cons_succ]
  refine takeW 20 76 (.bool false) rfl rfl (by kernel_rfl) (by kernel_rfl) (by kernel_rfl) (fun _ _ _ h => h) (by kernel_rfl) (by (intro w hSw; go_simp)) (by assumption) ?_
  simp only [List.set_cons_zero, List.set_cons_succ]
  refine takeW 21 77 (.agg #[.int .i64 ownC, .slice adMC LMC.length capMC]) rfl rfl (by kernel_rfl) (by kernel_rfl) (by kernel_rfl) (fun _ _ _ h => h) (by kernel_rfl) (by (intro Y hSw; obtain ⟨C1, C2⟩ := MC.below hSw (by omega); go_simp)) (by assumption) ?_
  simp only [List.set_cons_zero, List.set_cons_succ]
  refine takeW 23 79 (.agg #[.int .i64 ownC, .slice adMC LMC.length capMC]) rfl rfl (by kernel_rfl) (by kernel_rfl) (by kernel_rfl) (fun _ _ _ h => h) (by kernel_rfl) (by (intro Y hSw; obtain ⟨C1, C2⟩ := MC.below hSw (by omega); go_simp)) (by assumption) ?_
  simp only [List.set_cons_zero, List.set_cons_succ]
  refine wpAnyH_all (rs := [22]) (by kernel_rfl) (by simp) ?_
  intro i hi; obtain rfl : i = 22 := by simpa using hi
  refine wpOp_step rfl (fun K hK => ?_)
  rw [if_pos (by kernel_rfl)]
  go_simp
  go_at_call 16
  refine (memberOkI ownC adMC LMC.length capMC (fun i => LMC.getD i 0) _ (vMC.carry (fun x e _ => hb2.block _ (by have := mMC x e; omega))) (by unfold maxLen; omega)).mono ?_
  rintro e y3 ⟨rfl, kz3⟩
  have hb3 : Below x14.heap.size x14 y3 := hb2.trans (kz3.mono hb2.size)
  refine hK _ _ ⟨hb3, ?_⟩
  clear hK K hi
  refine wpAnyH_all (rs := [24]) (by kernel_rfl) (by simp) ?_
  intro i hi; obtain rfl : i = 24 := by simpa using hi
  refine wpOp_step rfl (fun K hK => ?_)
  rw [if_pos (by kernel_rfl)]
  go_simp
  go_at_call 17
  refine (memberOkS ownC adMC LMC.length capMC (fun i => LMC.getD i 0) _ (vMC.carry (fun x e _ => hb3.block _ (by have := mMC x e; omega))) (by unfold maxLen; omega)).mono ?_
  rintro e y4 ⟨rfl, kz4⟩
  have hb4 : Below x14.heap.size x14 y4 := hb3.trans (kz4.mono hb3.size)
  refine hK _ _ ⟨hb4, ?_⟩
  clear hK K hi
  refine takeW 25 81 (.bool false) rfl rfl (by kernel_rfl) (by kernel_rfl) (by kernel_rfl) (fun _ _ _ h => h) (by kernel_rfl) (by (intro Y hSw; go_simp)) (by assumption) ?_
  simp only [List.set_cons_zero, List.set_cons_succ]
  refine takeW 26 82 (.bool false) rfl rfl (by kernel_rfl) (by kernel_rfl) (by kernel_rfl) (fun _ _ _ h => h) (by kernel_rfl) (by (intro w hSw; go_simp)) (by assumption) ?_
  simp only [List.set_cons_zero, List.set_cons_succ]
  refine wpAnyH_done (by kernel_rfl) ?_ _
  have sy4 := hb4.size
  have vMA := vMA.carry (w' := y4) (fun x h _ => hb4.block _ (by have := mMA x h; omega))
  have qLA := qLA.carry (w' := y4) (fun x h _ => hb4.block _ (by have := mLA x h; omega))
  have MA := MA.below hb4 (by omega)
  have FA := FA.below hb4 (by omega)
  have q5 := q5.carry (w' := y4) (fun x h _ => hb4.block _ (by have := m5 x h; omega))
  have F5 := F5.below hb4 (by omega)
  have q7 := q7.carry (w' := y4) (fun x h _ => hb4.block _ (by have := m7 x h; omega))
  have F7 := F7.below hb4 (by omega)
  have vMB := vMB.carry (w' := y4) (fun x h _ => hb4.block _ (by have := mMB x h; omega))
  have qLB := qLB.carry (w' := y4) (fun x h _ => hb4.block _ (by have := mLB x h; omega))
  have MB := MB.below hb4 (by omega)
  have FB := FB.below hb4 (by omega)
  have q11 := q11.carry (w' := y4) (fun x h _ => hb4.block _ (by have := m11 x h; omega))
  have F11 := F11.below hb4 (by omega)
  have q13 := q13.carry (w' := y4) (fun x h _ => hb4.block _ (by have := m13 x h; omega))
  have F13 := F13.below hb4 (by omega)
  have vMC := vMC.carry (w' := y4) (fun x h _ => hb4.block _ (by have := mMC x h; omega))
  have MC := MC.below hb4 (by omega)
  have BW := BW.trans (hb4.mono BW.size)
  clear hb0 hb1 hb2 hb3
  rcases out_in _ _ _ _ _ _ _ hrA.out with ⟨hk, hz⟩ | ⟨hk, hin⟩
  · subst hk
    subst hz
    obtain ⟨X1, X2, X3, X4⟩ := F5
    clear hrA
    go_wp2
    go_ret
    exact ⟨rfl, BW⟩
  · subst hk
    have hin : Hid _ := hin
    have MA' := MA
    have F5' := F5
    obtain ⟨X1, X2⟩ := MA'
    obtain ⟨Y1, Y2, Y3, Y4⟩ := F5'
    clear hrA
    go_wp2_with fail
    go_at_call 12
    clear X1 X2 Y1 Y2 Y3 Y4
    refine (insideI ownA adMA LMA.length capMA (fun i => LMA.getD i 0) raA rbA rcA ad5 cap5 rMA y4 vMA (by unfold maxLen; omega) q5 (by omega)).mono ?_
    rintro e z1 ⟨ad16, cap16, rfl, oL, kz1⟩
    rw [hin.out] at oL ⊢
    simp only [] at oL ⊢
    obtain ⟨q16, _, m16⟩ := own_view2 oL
    clear oL
    have sz1 := kz1.size
    have vMA := vMA.carry (w' := z1) (fun x h _ => kz1.block _ (by have := mMA x h; omega))
    have qLA := qLA.carry (w' := z1) (fun x h _ => kz1.block _ (by have := mLA x h; omega))
    have MA := MA.below kz1 (by omega)
    have FA := FA.below kz1 (by omega)
    have q5 := q5.carry (w' := z1) (fun x h _ => kz1.block _ (by have := m5 x h; omega))
    have F5 := F5.below kz1 (by omega)
    have q7 := q7.carry (w' := z1) (fun x h _ => kz1.block _ (by have := m7 x h; omega))
    have F7 := F7.below kz1 (by omega)
    have vMB := vMB.carry (w' := z1) (fun x h _ => kz1.block _ (by have := mMB x h; omega))
    have qLB := qLB.carry (w' := z1) (fun x h _ => kz1.block _ (by have := mLB x h; omega))
    have MB := MB.below kz1 (by omega)
    have FB := FB.below kz1 (by omega)
    have q11 := q11.carry (w' := z1) (fun x h _ => kz1.block _ (by have := m11 x h; omega))
    have F11 := F11.below kz1 (by omega)
    have q13 := q13.carry (w' := z1) (fun x h _ => kz1.block _ (by have := m13 x h; omega))
    have F13 := F13.below kz1 (by omega)
    have vMC := vMC.carry (w' := z1) (fun x h _ => kz1.block _ (by have := mMC x h; omega))
    have MC := MC.below kz1 (by omega)
    have BW := BW.trans (kz1.mono BW.size)
    obtain ⟨z2, hprev⟩ : ∃ z, z = z1.alloc (Obj.cells #[.int .i64 aA, .int .i64 bA, .int .i64 cA, .slice ad16 LA.length cap16] 28) := ⟨_, rfl⟩
    have kz2 : Below z1.heap.size z1 z2 := by rw [hprev]; exact below_box z1 _
    have sz2 : z1.heap.size < z2.heap.size := by rw [hprev]; exact size_box z1 _
    have q16 := q16.carry (w' := z2) (fun x h _ => kz2.block _ (m16 x h).2)
    have vMA := vMA.carry (w' := z2) (fun x h _ => kz2.block _ (by have := mMA x h; omega))
    have qLA := qLA.carry (w' := z2) (fun x h _ => kz2.block _ (by have := mLA x h; omega))
    have MA := MA.below kz2 (by omega)
    have FA := FA.below kz2 (by omega)
    have q5 := q5.carry (w' := z2) (fun x h _ => kz2.block _ (by have := m5 x h; omega))
    have F5 := F5.below kz2 (by omega)
    have q7 := q7.carry (w' := z2) (fun x h _ => kz2.block _ (by have := m7 x h; omega))
    have F7 := F7.below kz2 (by omega)
    have vMB := vMB.carry (w' := z2) (fun x h _ => kz2.block _ (by have := mMB x h; omega))
    have qLB := qLB.carry (w' := z2) (fun x h _ => kz2.block _ (by have := mLB x h; omega))
    have MB := MB.below kz2 (by omega)
    have FB := FB.below kz2 (by omega)
    have q11 := q11.carry (w' := z2) (fun x h _ => kz2.block _ (by have := m11 x h; omega))
    have F11 := F11.below kz2 (by omega)
    have q13 := q13.carry (w' := z2) (fun x h _ => kz2.block _ (by have := m13 x h; omega))
    have F13 := F13.below kz2 (by omega)
    have vMC := vMC.carry (w' := z2) (fun x h _ => kz2.block _ (by have := mMC x h; omega))
    have MC := MC.below kz2 (by omega)
    have BW := BW.trans (kz2.mono BW.size)
    obtain ⟨Y1, Y2, Y3, Y4⟩ := FA
    rw [hprev] at Y1 Y2 Y3 Y4
    go_wp2_with fail
    go_at_call 15
    rw [← hprev]
    clear hprev Y1 Y2 Y3 Y4
    refine (sameImpl aA bA cA aA bA cA ad16 adLA LA.length cap16 LA.length capLA (fun i => LA.getD i 0) (fun i => LA.getD i 0) z2 q16 qLA (getD_bd hLbA) (getD_bd hLbA)).mono ?_
    rintro e z3 ⟨rfl, kz3⟩
    rw [same_refl]
    go_wp2
    go_ret
    exact ⟨rfl, BW.trans (kz3.mono BW.size)⟩

set_option maxRecDepth 100000 in
theorem lifted (os : Os) (started : os.Started) (H : Type) (enc : TypeId × Value → H) :
    ReturnsInHanded {} Try.checked os 3 .any (Rows.fnVlansSpec.pre6 enc Try.prog Try.f3 Rows.fnVlansRow.domain false) (Rows.fnVlansSpec.post enc Try.prog Try.f3 false true false false) := by
  refine returnsInHanded_of_change (C := Try.checked) own started (by kernel_rfl) Try.func3
    (ChangeSpec.witness6 (enc := enc) (C := Try.checked) false ⟨#[], #[.slice none 0 0], []⟩ 8 (by kernel_rfl) (by kernel_rfl) (by kernel_rfl) (by kernel_rfl)) ?_
  intro W base args ds gs before hval0 hW hcnd _
  have hval : ∀ (j : Nat) t v, Try.f3.params[j]? = some t → args[j]? = some v → Value.okWide Try.prog W .any base t v := hval0
  have hW' := hW
  obtain ⟨p, q, hA0, hV, rfl, hfz, hnd⟩ := hW
  have hA : DataW.TrodAll enc Try.prog W 0 (fun _ => true) true Try.f3.params.toList args.toList ds p := hA0
  rw [Try.params3] at hA hval
  obtain ⟨v0, vs0, d0, ds0, p0, q0, hargs, rfl, rfl, h0, r0⟩ := trodAll_cons hA
  obtain ⟨rfl, rfl, rfl⟩ := trodAll_nil r0
  obtain rfl : args = #[v0] := by cases args; simp_all
  obtain ⟨rfl, rfl⟩ := trodVars_none hV
  obtain ⟨a0, len0, cap0, rfl⟩ := okWide_slice Try.underlying22 (hval 0 22 v0 rfl rfl)
  have k0 := h0
  have lt0 : ∀ x ∈ p0, x.block < W.heap.size := by obtain ⟨m, hm⟩ := k0; exact DataW.trod_lt m _ _ _ hm
  obtain ⟨z0, w0⟩ : ∃ zs, IsRow .u8 W a0 len0 cap0 zs := by
    obtain ⟨fuel, hf⟩ := h0
    rcases open_ints Try.underlying22 Try.underlying5 (by kernel_rfl) hf with ⟨hcs, _⟩ | ⟨x, l, c, zs, hcs, _, hl, hm, hz, _, hcell, hwz⟩
    · simp [Value.cells] at hcs
      obtain ⟨rfl, rfl, rfl⟩ := hcs
      exact ⟨[], .inl ⟨rfl, rfl, rfl, rfl⟩⟩
    · simp [Value.cells] at hcs
      obtain ⟨rfl, rfl, rfl⟩ := hcs
      exact ⟨zs, .inr ⟨_, rfl, hl, hm, by simpa using hz, hcell, hwz⟩⟩
  clear hA0 hval0
  refine (walk a0 len0 cap0 z0 W w0).mono fun e W' ⟨he, bel⟩ => ?_
  subst he
  exact ⟨_, rfl, _, _, _, [], _, [], hW', trodAll_mk1 (shut_bool Try.underlying4 _), (trodAll_cons_mk (Below.trod laidOut (by kernel_rfl) (of_decide_eq_true (by kernel_rfl)) k0 bel lt0) trodAll_mk0), rfl, bel.frame _, fun h => by cases h⟩

theorem over : Rows.fnVlansRow.holds Try.pinned (OpenSpec.ofChange Rows.fnVlansSpec) :=
  OpenClaim.holds_of_wide 3 Try.f3 rfl rfl rfl rfl rfl rfl rfl ⟨rfl, rfl, rfl, rfl, rfl⟩ rfl rfl rfl rfl rfl (by kernel_rfl) Try.func3 (by kernel_rfl)
    (of_decide_eq_true (by kernel_rfl)) (by unfold Func.isWrapper; first | (rw [if_pos (by decide +kernel)]; kernel_rfl) | (rw [if_neg (by decide +kernel)]; exact ⟨rfl, rfl⟩))
    (fun os started H enc _ => lifted os started H enc)

theorem proved : Rows.FnVlansSaid := over
end Go.Proofs.Ytmeofihjimgldaa.fnVlans
namespace Go.Proofs.Ytmeofihjimgldaa
theorem vlans_holds : Rows.FnVlansSaid := fnVlans.proved
#print axioms vlans_holds
end Go.Proofs.Ytmeofihjimgldaa
