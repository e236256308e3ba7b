/- For every slice of bytes the call of FnFrames returns true: frames that are drawn of it are read from their bytes as they were, cut short they are none (a slice of more than 1048576 bytes is answered true at once). The variable errNoNumber holds what its text lays (the card ties it, over the pruned copy of the project). -/
import Derived.Test.YtpdlliehdmeboaaDoorRows
import Derived.Test.YtpdlliehdmeboaaDoorTie
import Derived.Test.YtpdlliehdmeboaaDoorCards
import Derived.SevenTiedAt
import Derived.LaidMore
import Derived.Stop.Joined
import Derived.Test.YtpdlliehdmeboaaDoorDraw6
import Derived.Test.YtpdlliehdmeboaaDoorFrame12
import Derived.Lib.SmallJoins
import Derived.Stop.LaidErr
import Derived.WalkKit
import Derived.WalkSmall
import Derived.ProofKit
import Derived.OpenShut
import Derived.ShutString
import Derived.ChangeOld
import Derived.Below
namespace Go.Proofs.YtpdlliehdmeboaaDoor.fnFrames
open Go.ChangeShapes Go.WideShapes Go.ChangeAt Go.RowKit
open Go.ChangeMaps (open_string shut_string)
set_option linter.unusedVariables false

theorem own : ownKnob Tryd.prog.godebug = none := by kernel_rfl
theorem laidOut : laidOutB Tryd.prog = true := by kernel_rfl

def IsRow (k : IntKind) (w : World) (a : Option Addr) (len cap : Nat) (zs : List Int) : Prop :=
  (a = none ∧ len = 0 ∧ cap = 0 ∧ zs = []) ∨
  ∃ x, a = some x ∧ len ≤ cap ∧ cap ≤ maxLen ∧ zs.length = cap ∧ (∀ i, i < zs.length → w.cell? (x.add i) = some (.int k (zs.getD i 0))) ∧ ∀ n ∈ zs, (Lit.int k n).wf = true

set_option maxHeartbeats 16000000 in
theorem walk (a0 : Option Addr) (len0 cap0 : Nat) (z0 : List Int) (w : World) (w0 : IsRow .u8 w a0 len0 cap0 z0) (tp : TypeId) (pE : Value) (hE : w.cell? ⟨0, 0, none⟩ = some (.iface tp pE)) :
    Calls Tryd.prog 3 #[.slice a0 len0 cap0] w fun e w' => e = .returned (.bool true) ∧ Below w.heap.size w w' := by
  have key : View w a0 len0 (fun i => z0.getD i 0) ∧ (∀ a, a0 = some a → 0 < len0 → a.block < w.heap.size) ∧ ∀ i, 0 ≤ z0.getD i 0 ∧ z0.getD i 0 ≤ 255 := by
    rcases w0 with ⟨rfl, rfl, rfl, rfl⟩ | ⟨x, rfl, hl, hm, hz, hcell, hwz⟩
    · exact ⟨fun h => absurd h (by omega), fun a h => by simp at h, fun i => by simp⟩
    · refine ⟨fun hp => ?_, fun a h hp => ?_, fun i => ?_⟩
      · obtain ⟨b, off, rfl, hc⟩ := ints_at hcell (by omega)
        exact ⟨b, off, rfl, fun i hi => hc i (by omega)⟩
      · obtain rfl : x = a := by simpa using h
        have hc := hcell 0 (by omega)
        simpa [Addr.add] using World.block_lt_of_cell? w _ hc
      · by_cases hi : i < z0.length
        · have := bounds_u8 (hwz (z0.getD i 0) (by simp [List.getD, hi]))
          exact this
        · simp [List.getD, List.getElem?_eq_none (by omega : z0.length ≤ i)]
  obtain ⟨hv, hB, hf⟩ := key
  obtain ⟨f, hfe⟩ : ∃ f : Nat → Int, f = fun i => z0.getD i 0 := ⟨_, rfl⟩
  rw [← hfe] at hv
  have hf' : ∀ i, 0 ≤ f i ∧ f i ≤ 255 := fun i => by rw [hfe]; exact hf i
  clear hfe hf w0
  have hsb : 0 < w.heap.size := World.block_lt_of_cell? w _ hE
  by_cases hbig : 1048576 < len0
  · have hbi : (1048576 : Int) < (len0 : Int) := by omega
    go_enter Tryd.func3, Tryd.ntmps3
    go_wp2_with fail
    go_at_call 5
    refine (bigYes a0 len0 cap0 w hbi).mono ?_
    rintro e w1 ⟨rfl, h1⟩
    rw [h1]
    clear h1 w1
    go_wp2
    go_ret
    exact ⟨rfl, Below.refl _ _⟩
  have hl0 : len0 ≤ 1048576 := by omega
  have hC : Code0 w a0 len0 f := ⟨hv, hB, hl0, hf'⟩
  clear hbig hv hB hf'
  go_enter Tryd.func3, Tryd.ntmps3
  go_wp2_with fail
  go_at_call 5
  refine (bigNo a0 len0 cap0 w hl0).mono ?_
  rintro e w1 ⟨rfl, h1⟩
  rw [h1]
  clear h1 w1
  go_wp2_with fail
  go_at_call 6
  refine (drawFB a0 len0 cap0 f w hC).mono ?_
  rintro e x1 ⟨a, b, c, L, adL, capL, rfl, oL, hLb, hL31, B1⟩
  have s1 := B1.size
  obtain ⟨qL, _, mL⟩ := own_view2 oL
  have nL := own_nil oL
  have lL : ∀ x, adL = some x → 0 < L.length → x.block < x1.heap.size := fun x h _ => (mL x h).2
  have hLm : L.length ≤ maxLen := by unfold maxLen; omega
  obtain ⟨ok, hok⟩ : ∃ ok, okF a b c L.length = ok := ⟨_, rfl⟩
  obtain ⟨W, hW⟩ : ∃ W, Hid (W = written a b c L) := ⟨_, rfl⟩
  have hWb : ∀ x ∈ W, 0 ≤ x ∧ x ≤ 255 := by rw [hW.out]; exact written_bd a b c L hLb
  have hW38 : W.length ≤ 38 := by rw [hW.out]; exact written_len a b c L
  clear oL mL
  obtain ⟨x2, hx2⟩ : ∃ y, y = x1.alloc (Obj.cells #[.int .i64 a, .int .i64 b, .int .i64 c, .slice adL L.length capL] 25) := ⟨_, rfl⟩
  have F3 : FrameAt x2 x1.heap.size a b c adL L.length capL := by rw [hx2]; exact frameAt_box x1 _ _ _ _ _ _ _
  have jx2 : Below x1.heap.size x1 x2 := by rw [hx2]; exact below_box x1 _
  have tx2 : x1.heap.size < x2.heap.size := by rw [hx2]; exact size_box x1 _
  have B2 := B1.trans (jx2.mono (by omega))
  have qL := qL.carry (w' := x2) (fun x h hp => jx2.block _ (lL x h hp))
  go_wp2_with fail
  go_at_call 7
  rw [← hx2]
  clear hx2
  refine (bytesImpl a b c adL capL L x2 qL (fun _ h => nL.1 h) hLb (by omega)).mono ?_
  rintro e x3 ⟨v, rfl, oW, k3⟩
  rw [← hW.out] at oW
  obtain ⟨_, adb, capb, rfl, qW, _, mW⟩ := own_view oW
  have nW := own_nil2 oW
  have lW : ∀ x, adb = some x → 0 < W.length → x.block < x3.heap.size := fun x h _ => (mW x h).2
  have s3 := k3.size
  have B3 := B2.trans (k3.mono (by omega))
  have hC3 := hC.later B3 (Nat.le_refl _)
  clear oW mW
  go_wp2_with fail
  go_at_call 8
  refine (drawFO a0 len0 cap0 f x3 hC3).mono ?_
  rintro e x4 ⟨P, adX, capX, rfl, qP, hPb, hP1, hPc, hPm, k4⟩
  have lP : ∀ x, adX = some x → 0 < P.length → x.block < x4.heap.size := fun x h hp => qP.lt x h hp
  have s4 := k4.size
  have B4 := B3.trans (k4.mono (by omega))
  clear hC3
  obtain ⟨r, hr⟩ : ∃ r, Hid (frameOf P = r) := ⟨_, rfl⟩
  have hrl := frameOf_len P
  rw [hr.out] at hrl
  obtain ⟨ra, rb, rc, rM, rok⟩ := r
  simp only [] at hrl
  go_wp2_with fail
  go_at_call 9
  refine (ofImpl adX capX P x4 qP hPb (by omega) hPc hPm _ _ ((B4.cell (p := ⟨0, 0, none⟩) hsb).trans hE)).mono ?_
  rintro e x5 ⟨⟨ad5, cap5, rfl, o5⟩, k5⟩
  rw [hr.out] at o5 ⊢
  simp only [] at o5 ⊢
  obtain ⟨q5, _, m5⟩ := own_view2 o5
  have n5 := own_nil o5
  have l5 : ∀ x, ad5 = some x → 0 < rM.length → x.block < x5.heap.size := fun x h _ => (m5 x h).2
  have s5 := k5.size
  have B5 := B4.trans (k5.mono (by omega))
  clear o5 m5
  obtain ⟨x6, hx6⟩ : ∃ y, y = x5.alloc (Obj.cells #[.int .i64 ra, .int .i64 rb, .int .i64 rc, .slice ad5 rM.length cap5] 25) := ⟨_, rfl⟩
  have F6 : FrameAt x6 x5.heap.size ra rb rc ad5 rM.length cap5 := by rw [hx6]; exact frameAt_box x5 _ _ _ _ _ _ _
  have jx6 : Below x5.heap.size x5 x6 := by rw [hx6]; exact below_box x5 _
  have tx6 : x5.heap.size < x6.heap.size := by rw [hx6]; exact size_box x5 _
  have B6 := B5.trans (jx6.mono (by omega))
  have k46 := k5.trans (jx6.mono (by omega))
  have qP6 := qP.carry (w' := x6) (fun x h hp => k46.block _ (lP x h hp))
  go_wp2_with fail
  go_at_call 10
  rw [← hx6]
  clear hx6
  refine (ofSpec adX capX P x6 qP6 hPb (by omega) hPc hPm).mono ?_
  rintro e x7 ⟨⟨ad7, cap7, rfl, o7⟩, k7⟩
  rw [hr.out] at o7 ⊢
  simp only [] at o7 ⊢
  obtain ⟨q7, _, m7⟩ := own_view2 o7
  have l7 : ∀ x, ad7 = some x → 0 < rM.length → x.block < x7.heap.size := fun x h _ => (m7 x h).2
  have s7 := k7.size
  have B7 := B6.trans (k7.mono (by omega))
  clear o7 m7 qP6
  obtain ⟨x8, hx8⟩ : ∃ y, y = x7.alloc (Obj.cells #[.int .i64 ra, .int .i64 rb, .int .i64 rc, .slice ad7 rM.length cap7] 25) := ⟨_, rfl⟩
  have F8 : FrameAt x8 x7.heap.size ra rb rc ad7 rM.length cap7 := by rw [hx8]; exact frameAt_box x7 _ _ _ _ _ _ _
  have jx8 : Below x7.heap.size x7 x8 := by rw [hx8]; exact below_box x7 _
  have tx8 : x7.heap.size < x8.heap.size := by rw [hx8]; exact size_box x7 _
  have B8 := B7.trans (jx8.mono (by omega))
  have hC8 := hC.later B8 (Nat.le_refl _)
  go_wp2_with fail
  go_at_call 11
  rw [← hx8]
  clear hx8
  refine (drawFS a0 len0 cap0 f x8 hC8).mono ?_
  rintro e x9 ⟨a1, b1, c1, M1, ad1, cap1, a2, b2, c2, M2, ad2, cap2, rfl, ⟨qA, hAb, hA31⟩, ⟨qB, hBb, hB31⟩, k9⟩
  have lA : ∀ x, ad1 = some x → 0 < M1.length → x.block < x9.heap.size := fun x h hp => qA.lt x h hp
  have lB : ∀ x, ad2 = some x → 0 < M2.length → x.block < x9.heap.size := fun x h hp => qB.lt x h hp
  have s9 := k9.size
  have B9 := B8.trans (k9.mono (by omega))
  clear hC8 hC
  obtain ⟨x10, hx10⟩ : ∃ y, y = (x9.alloc (Obj.cells #[.int .i64 a1, .int .i64 b1, .int .i64 c1, .slice ad1 M1.length cap1] 25)).alloc (Obj.cells #[.int .i64 a2, .int .i64 b2, .int .i64 c2, .slice ad2 M2.length cap2] 25) := ⟨_, rfl⟩
  have FA : FrameAt x10 x9.heap.size a1 b1 c1 ad1 M1.length cap1 := by rw [hx10]; refine ⟨?_, ?_, ?_, ?_⟩ <;> simp [go_sem]
  have FB : FrameAt x10 (x9.heap.size + 1) a2 b2 c2 ad2 M2.length cap2 := by rw [hx10]; refine ⟨?_, ?_, ?_, ?_⟩ <;> simp [go_sem]
  have j10 : Below x9.heap.size x9 x10 := by rw [hx10]; exact ((Below.refl _ _).alloc (Nat.le_refl _) _).alloc (by simp) _
  have t10 : x9.heap.size + 1 < x10.heap.size := by rw [hx10]; simp
  have B10 := B9.trans (j10.mono (by omega))
  have K8 : Below x8.heap.size x8 x10 := k9.trans (j10.mono (by omega))
  have K7 : Below x7.heap.size x7 x10 := jx8.trans (K8.mono (by omega))
  have K6 : Below x6.heap.size x6 x10 := k7.trans (K7.mono (by omega))
  have K5 : Below x5.heap.size x5 x10 := jx6.trans (K6.mono (by omega))
  have K4 : Below x4.heap.size x4 x10 := k5.trans (K5.mono (by omega))
  have K3 : Below x3.heap.size x3 x10 := k4.trans (K4.mono (by omega))
  have K2 : Below x2.heap.size x2 x10 := k3.trans (K3.mono (by omega))
  have F3 := F3.below K2 (by omega)
  have qL := qL.carry (w' := x10) (fun x h hp => K2.block _ (by have := lL x h hp; omega))
  have qW := qW.carry (w' := x10) (fun x h hp => K3.block _ (lW x h hp))
  have qP := qP.carry (w' := x10) (fun x h hp => K4.block _ (lP x h hp))
  have q5 := q5.carry (w' := x10) (fun x h hp => K5.block _ (l5 x h hp))
  have F6 := F6.below K6 (by omega)
  have q7 := q7.carry (w' := x10) (fun x h hp => K7.block _ (l7 x h hp))
  have F8 := F8.below K8 (by omega)
  have qA := qA.carry (w' := x10) (fun x h hp => j10.block _ (lA x h hp))
  have qB := qB.carry (w' := x10) (fun x h hp => j10.block _ (lB x h hp))
  have hrb : ∀ x ∈ rM, 0 ≤ x ∧ x ≤ 255 := by have := frameOf_bd hPb; rw [hr.out] at this; exact this
  obtain ⟨sm, hsm⟩ : ∃ sm, sameF a1 b1 c1 a2 b2 c2 (sameT (fun i => M1.getD i 0) M1.length (fun i => M2.getD i 0) M2.length) = sm := ⟨_, rfl⟩
  clear K2 K3 K4 K5 K6 K7 K8 k3 k4 k5 k7 k9 k46 jx2 jx6 jx8 B1 B2 B3 B4 B5 B6 B7 B8 B9
  cases rok with
  | false =>
    clear hr
    go_wp2_with fail
    rw [← hx10]
    clear hx10
    refine wp_region_held (S := fun Y => Below x10.heap.size x10 Y) (by kernel_rfl) ?_
    change wpAnyH _ _ _ _ _ _ _ _ (World.drew _)
    have hb0 : Below x10.heap.size x10 x10.drew := (Below.refl _ _).drew
    refine takeW 0 39 (.slice adb W.length capb) rfl rfl (by kernel_rfl) (by kernel_rfl) (by kernel_rfl) (fun _ _ _ h => h) (by kernel_rfl) (by (intro w hSw; go_simp)) (by assumption) ?_
    simp only [List.set_cons_zero, List.set_cons_succ]
    refine takeW 1 40 (.string (txt W)) rfl rfl (by kernel_rfl) (by kernel_rfl) (by kernel_rfl) (fun _ _ _ h => h) (by kernel_rfl) (by (intro Y hSw; have hcv := conv_view (cap := capb) (qW.carry (w' := Y) (fun x e hp => hSw.block _ (by have := lW x e hp; omega))) hWb; go_simp)) (by assumption) ?_
    simp only [List.set_cons_zero, List.set_cons_succ]
    refine takeW 2 41 (.agg #[.int .i64 a, .int .i64 b, .int .i64 c, .slice adL L.length capL]) rfl rfl (by kernel_rfl) (by kernel_rfl) (by kernel_rfl) (fun _ _ _ h => h) (by kernel_rfl) (by (intro Y hSw; obtain ⟨C1, C2, C3, C4⟩ := F3.below hSw (by omega); go_simp)) (by assumption) ?_
    simp only [List.set_cons_zero, List.set_cons_succ]
    refine wpAnyH_all (rs := [3]) (by kernel_rfl) (by simp) ?_
    intro i hi; obtain rfl : i = 3 := by simpa using hi
    refine wpOp_step rfl (fun K hK => ?_)
    rw [if_pos (by kernel_rfl)]
    go_simp
    go_at_call 12
    refine (bytesSpec a b c adL capL L _ (qL.carry (fun x e hp => hb0.block _ (by have := lL x e hp; omega))) (fun _ h => nL.1 h) hLb (by omega)).mono ?_
    rintro e y1 ⟨v, rfl, ou, ku⟩
    obtain ⟨_, adu, capu, rfl, vu, _, mu⟩ := own_view ou
    rw [← hW.out] at vu
    rw [← hW.out]
    have hb1 : Below x10.heap.size x10 y1 := hb0.trans (ku.mono hb0.size)
    refine hK _ _ ⟨hb1, ?_⟩
    clear hK K hi
    refine wpAnyH_all (rs := [4]) (by kernel_rfl) (by simp) ?_
    intro i hi; obtain rfl : i = 4 := by simpa using hi
    refine wpOp_step rfl (fun K hK => ?_)
    rw [if_pos (by kernel_rfl)]
    go_simp
    have hcv := conv_view (cap := capu) vu hWb
    rw [hcv]
    go_simp
    clear hcv
    refine hK _ _ ⟨hb1, ?_⟩
    clear hK K hi
    refine takeW 5 44 (.bool false) rfl rfl (by kernel_rfl) (by kernel_rfl) (by kernel_rfl) (fun _ _ _ h => h) (by kernel_rfl) (by (intro Y hSw; go_simp)) (by assumption) ?_
    simp only [List.set_cons_zero, List.set_cons_succ]
    refine takeW 6 45 (.bool false) rfl rfl (by kernel_rfl) (by kernel_rfl) (by kernel_rfl) (fun _ _ _ h => h) (by kernel_rfl) (by (intro w hSw; go_simp)) (by assumption) ?_
    simp only [List.set_cons_zero, List.set_cons_succ]
    refine takeW 7 46 (.bool false) rfl rfl (by kernel_rfl) (by kernel_rfl) (by kernel_rfl) (fun _ _ _ h => h) (by kernel_rfl) (by (intro w hSw; go_simp)) (by assumption) ?_
    simp only [List.set_cons_zero, List.set_cons_succ]
    refine takeW 8 47 (.bool false) rfl rfl (by kernel_rfl) (by kernel_rfl) (by kernel_rfl) (fun _ _ _ h => h) (by kernel_rfl) (by (intro w hSw; go_simp)) (by assumption) ?_
    simp only [List.set_cons_zero, List.set_cons_succ]
    refine takeW 9 48 (.bool false) rfl rfl (by kernel_rfl) (by kernel_rfl) (by kernel_rfl) (fun _ _ _ h => h) (by kernel_rfl) (by (intro Y hSw; go_simp)) (by assumption) ?_
    simp only [List.set_cons_zero, List.set_cons_succ]
    refine takeW 10 49 (.bool false) rfl rfl (by kernel_rfl) (by kernel_rfl) (by kernel_rfl) (fun _ _ _ h => h) (by kernel_rfl) (by (intro w hSw; go_simp)) (by assumption) ?_
    simp only [List.set_cons_zero, List.set_cons_succ]
    refine takeW 11 50 (.bool false) rfl rfl (by kernel_rfl) (by kernel_rfl) (by kernel_rfl) (fun _ _ _ h => h) (by kernel_rfl) (by (intro w hSw; go_simp)) (by assumption) ?_
    simp only [List.set_cons_zero, List.set_cons_succ]
    refine takeW 12 51 (.agg #[.int .i64 ra, .int .i64 rb, .int .i64 rc, .slice ad5 rM.length cap5]) rfl rfl (by kernel_rfl) (by kernel_rfl) (by kernel_rfl) (fun _ _ _ h => h) (by kernel_rfl) (by (intro Y hSw; obtain ⟨C1, C2, C3, C4⟩ := F6.below hSw (by omega); go_simp)) (by assumption) ?_
    simp only [List.set_cons_zero, List.set_cons_succ]
    refine takeW 13 52 (.agg #[.int .i64 ra, .int .i64 rb, .int .i64 rc, .slice ad7 rM.length cap7]) rfl rfl (by kernel_rfl) (by kernel_rfl) (by kernel_rfl) (fun _ _ _ h => h) (by kernel_rfl) (by (intro Y hSw; obtain ⟨C1, C2, C3, C4⟩ := F8.below hSw (by omega); go_simp)) (by assumption) ?_
    simp only [List.set_cons_zero, List.set_cons_succ]
    refine wpAnyH_all (rs := [14]) (by kernel_rfl) (by simp) ?_
    intro i hi; obtain rfl : i = 14 := by simpa using hi
    refine wpOp_step rfl (fun K hK => ?_)
    rw [if_pos (by kernel_rfl)]
    go_simp
    go_at_call 13
    refine (sameImpl ra rb rc ra rb rc ad5 ad7 rM.length cap5 rM.length cap7 (fun i => rM.getD i 0) (fun i => rM.getD i 0) _ (q5.carry (fun x e hp => hb1.block _ (by have := l5 x e hp; omega))) (q7.carry (fun x e hp => hb1.block _ (by have := l7 x e hp; omega))) (getD_bd hrb) (getD_bd hrb)).mono ?_
    rintro e y2 ⟨rfl, ks⟩
    rw [sameF_self]
    have hb2 : Below x10.heap.size x10 y2 := hb1.trans (ks.mono hb1.size)
    refine hK _ _ ⟨hb2, ?_⟩
    clear hK K hi
    refine takeW 15 54 (.bool false) rfl rfl (by kernel_rfl) (by kernel_rfl) (by kernel_rfl) (fun _ _ _ h => h) (by kernel_rfl) (by (intro w hSw; go_simp)) (by assumption) ?_
    simp only [List.set_cons_zero, List.set_cons_succ]
    refine takeW 16 55 (.bool false) rfl rfl (by kernel_rfl) (by kernel_rfl) (by kernel_rfl) (fun _ _ _ h => h) (by kernel_rfl) (by (intro w hSw; go_simp)) (by assumption) ?_
    simp only [List.set_cons_zero, List.set_cons_succ]
    refine takeW 17 56 (.bool false) rfl rfl (by kernel_rfl) (by kernel_rfl) (by kernel_rfl) (fun _ _ _ h => h) (by kernel_rfl) (by (intro w hSw; go_simp)) (by assumption) ?_
    simp only [List.set_cons_zero, List.set_cons_succ]
    refine takeW 18 57 (.agg #[.int .i64 a1, .int .i64 b1, .int .i64 c1, .slice ad1 M1.length cap1]) rfl rfl (by kernel_rfl) (by kernel_rfl) (by kernel_rfl) (fun _ _ _ h => h) (by kernel_rfl) (by (intro Y hSw; obtain ⟨C1, C2, C3, C4⟩ := FA.below hSw (by omega); go_simp)) (by assumption) ?_
    simp only [List.set_cons_zero, List.set_cons_succ]
    refine takeW 19 58 (.agg #[.int .i64 a2, .int .i64 b2, .int .i64 c2, .slice ad2 M2.length cap2]) rfl rfl (by kernel_rfl) (by kernel_rfl) (by kernel_rfl) (fun _ _ _ h => h) (by kernel_rfl) (by (intro Y hSw; obtain ⟨C1, C2, C3, C4⟩ := FB.below hSw (by omega); go_simp)) (by assumption) ?_
    simp only [List.set_cons_zero, List.set_cons_succ]
    refine takeW 21 60 (.agg #[.int .i64 a1, .int .i64 b1, .int .i64 c1, .slice ad1 M1.length cap1]) rfl rfl (by kernel_rfl) (by kernel_rfl) (by kernel_rfl) (fun _ _ _ h => h) (by kernel_rfl) (by (intro Y hSw; obtain ⟨C1, C2, C3, C4⟩ := FA.below hSw (by omega); go_simp)) (by assumption) ?_
    simp only [List.set_cons_zero, List.set_cons_succ]
    refine takeW 22 61 (.agg #[.int .i64 a2, .int .i64 b2, .int .i64 c2, .slice ad2 M2.length cap2]) rfl rfl (by kernel_rfl) (by kernel_rfl) (by kernel_rfl) (fun _ _ _ h => h) (by kernel_rfl) (by (intro Y hSw; obtain ⟨C1, C2, C3, C4⟩ := FB.below hSw (by omega); go_simp)) (by assumption) ?_
    simp only [List.set_cons_zero, List.set_cons_succ]
    refine wpAnyH_all (rs := [20]) (by kernel_rfl) (by simp) ?_
    intro i hi; obtain rfl : i = 20 := by simpa using hi
    refine wpOp_step rfl (fun K hK => ?_)
    rw [if_pos (by kernel_rfl)]
    go_simp
    go_at_call 13
    refine (sameImpl a1 b1 c1 a2 b2 c2 ad1 ad2 M1.length cap1 M2.length cap2 (fun i => M1.getD i 0) (fun i => M2.getD i 0) _ (qA.carry (fun x e hp => hb2.block _ (by have := lA x e hp; omega))) (qB.carry (fun x e hp => hb2.block _ (by have := lB x e hp; omega))) (getD_bd hAb) (getD_bd hBb)).mono ?_
    rintro e y3 ⟨rfl, kz3⟩
    rw [hsm]
    have hb3 : Below x10.heap.size x10 y3 := hb2.trans (kz3.mono hb2.size)
    refine hK _ _ ⟨hb3, ?_⟩
    clear hK K hi
    refine wpAnyH_all (rs := [23]) (by kernel_rfl) (by simp) ?_
    intro i hi; obtain rfl : i = 23 := by simpa using hi
    refine wpOp_step rfl (fun K hK => ?_)
    rw [if_pos (by kernel_rfl)]
    go_simp
    go_at_call 14
    refine (sameSpec a1 b1 c1 a2 b2 c2 ad1 ad2 M1.length cap1 M2.length cap2 (fun i => M1.getD i 0) (fun i => M2.getD i 0) _ (qA.carry (fun x e hp => hb3.block _ (by have := lA x e hp; omega))) (qB.carry (fun x e hp => hb3.block _ (by have := lB x e hp; omega))) (getD_bd hAb) (getD_bd hBb) (fun x e hp => by have := lA x e hp; have := hb3.size; omega) (fun x e hp => by have := lB x e hp; have := hb3.size; omega)).mono ?_
    rintro e y4 ⟨rfl, kz4⟩
    rw [hsm]
    have hb4 : Below x10.heap.size x10 y4 := hb3.trans (kz4.mono hb3.size)
    refine hK _ _ ⟨hb4, ?_⟩
    clear hK K hi
    refine takeW 24 63 (.bool false) rfl rfl (by kernel_rfl) (by kernel_rfl) (by kernel_rfl) (fun _ _ _ h => h) (by kernel_rfl) (by (intro Y hSw; go_simp)) (by assumption) ?_
    simp only [List.set_cons_zero, List.set_cons_succ]
    refine takeW 25 64 (.bool false) rfl rfl (by kernel_rfl) (by kernel_rfl) (by kernel_rfl) (fun _ _ _ h => h) (by kernel_rfl) (by (intro w hSw; go_simp)) (by assumption) ?_
    simp only [List.set_cons_zero, List.set_cons_succ]
    refine takeW 26 65 (.bool false) rfl rfl (by kernel_rfl) (by kernel_rfl) (by kernel_rfl) (fun _ _ _ h => h) (by kernel_rfl) (by (intro w hSw; go_simp)) (by assumption) ?_
    simp only [List.set_cons_zero, List.set_cons_succ]
    refine takeW 27 66 (.agg #[.int .i64 a, .int .i64 b, .int .i64 c, .slice adL L.length capL]) rfl rfl (by kernel_rfl) (by kernel_rfl) (by kernel_rfl) (fun _ _ _ h => h) (by kernel_rfl) (by (intro Y hSw; obtain ⟨C1, C2, C3, C4⟩ := F3.below hSw (by omega); go_simp)) (by assumption) ?_
    simp only [List.set_cons_zero, List.set_cons_succ]
    refine takeW 29 68 (.agg #[.int .i64 a, .int .i64 b, .int .i64 c, .slice adL L.length capL]) rfl rfl (by kernel_rfl) (by kernel_rfl) (by kernel_rfl) (fun _ _ _ h => h) (by kernel_rfl) (by (intro Y hSw; obtain ⟨C1, C2, C3, C4⟩ := F3.below hSw (by omega); go_simp)) (by assumption) ?_
    simp only [List.set_cons_zero, List.set_cons_succ]
    refine wpAnyH_all (rs := [28]) (by kernel_rfl) (by simp) ?_
    intro i hi; obtain rfl : i = 28 := by simpa using hi
    refine wpOp_step rfl (fun K hK => ?_)
    rw [if_pos (by kernel_rfl)]
    go_simp
    go_at_call 15
    refine (okImpl a b c adL L.length capL _ hLm).mono ?_
    rintro e y5 ⟨rfl, kz5⟩
    rw [hok]
    have hb5 : Below x10.heap.size x10 y5 := hb4.trans (kz5.mono hb4.size)
    refine hK _ _ ⟨hb5, ?_⟩
    clear hK K hi
    refine wpAnyH_all (rs := [30]) (by kernel_rfl) (by simp) ?_
    intro i hi; obtain rfl : i = 30 := by simpa using hi
    refine wpOp_step rfl (fun K hK => ?_)
    rw [if_pos (by kernel_rfl)]
    go_simp
    go_at_call 16
    refine (okSpec a b c adL L.length capL _ hLm).mono ?_
    rintro e y6 ⟨rfl, kz6⟩
    rw [hok]
    have hb6 : Below x10.heap.size x10 y6 := hb5.trans (kz6.mono hb5.size)
    refine hK _ _ ⟨hb6, ?_⟩
    clear hK K hi
    refine takeW 31 70 (.bool false) rfl rfl (by kernel_rfl) (by kernel_rfl) (by kernel_rfl) (fun _ _ _ h => h) (by kernel_rfl) (by (intro Y hSw; go_simp)) (by assumption) ?_
    simp only [List.set_cons_zero, List.set_cons_succ]
    refine takeW 32 71 (.bool false) rfl rfl (by kernel_rfl) (by kernel_rfl) (by kernel_rfl) (fun _ _ _ h => h) (by kernel_rfl) (by (intro w hSw; go_simp)) (by assumption) ?_
    simp only [List.set_cons_zero, List.set_cons_succ]
    refine takeW 33 72 (.bool false) rfl rfl (by kernel_rfl) (by kernel_rfl) (by kernel_rfl) (fun _ _ _ h => h) (by kernel_rfl) (by (intro w hSw; go_simp)) (by assumption) ?_
    simp only [List.set_cons_zero, List.set_cons_succ]
    refine takeW 34 73 (.bool false) rfl rfl (by kernel_rfl) (by kernel_rfl) (by kernel_rfl) (fun _ _ _ h => h) (by kernel_rfl) (by (intro w hSw; go_simp)) (by assumption) ?_
    simp only [List.set_cons_zero, List.set_cons_succ]
    refine takeW 35 74 (.bool false) rfl rfl (by kernel_rfl) (by kernel_rfl) (by kernel_rfl) (fun _ _ _ h => h) (by kernel_rfl) (by (intro w hSw; go_simp)) (by assumption) ?_
    simp only [List.set_cons_zero, List.set_cons_succ]
    refine takeS 36 75 rfl rfl (by kernel_rfl) (by kernel_rfl) (by kernel_rfl) (fun _ _ _ h => h) (by kernel_rfl) (by assumption) ?_
    simp only [List.set_cons_zero, List.set_cons_succ]
    refine takeS 39 78 rfl rfl (by kernel_rfl) (by kernel_rfl) (by kernel_rfl) (fun _ _ _ h => h) (by kernel_rfl) (by assumption) ?_
    simp only [List.set_cons_zero, List.set_cons_succ]
    refine takeS 40 79 rfl rfl (by kernel_rfl) (by kernel_rfl) (by kernel_rfl) (fun _ _ _ h => h) (by kernel_rfl) (by assumption) ?_
    simp only [List.set_cons_zero, List.set_cons_succ]
    refine takeS 37 76 rfl rfl (by kernel_rfl) (by kernel_rfl) (by kernel_rfl) (fun _ _ _ h => h) (by kernel_rfl) (by assumption) ?_
    simp only [List.set_cons_zero, List.set_cons_succ]
    refine takeS 38 77 rfl rfl (by kernel_rfl) (by kernel_rfl) (by kernel_rfl) (fun _ _ _ h => h) (by kernel_rfl) (by assumption) ?_
    simp only [List.set_cons_zero, List.set_cons_succ]
    refine takeS 41 80 rfl rfl (by kernel_rfl) (by kernel_rfl) (by kernel_rfl) (fun _ _ _ h => h) (by kernel_rfl) (by assumption) ?_
    simp only [List.set_cons_zero, List.set_cons_succ]
    refine takeW 42 81 (.bool false) rfl rfl (by kernel_rfl) (by kernel_rfl) (by kernel_rfl) (fun _ _ _ h => h) (by kernel_rfl) (by (intro w hSw; go_simp)) (by assumption) ?_
    simp only [List.set_cons_zero, List.set_cons_succ]
    refine takeW 43 82 (.bool false) rfl rfl (by kernel_rfl) (by kernel_rfl) (by kernel_rfl) (fun _ _ _ h => h) (by kernel_rfl) (by (intro w hSw; go_simp)) (by assumption) ?_
    simp only [List.set_cons_zero, List.set_cons_succ]
    refine wpAnyH_done (by kernel_rfl) ?_ _
    have BY : Below w.heap.size w y6 := B10.trans (hb6.mono (by omega))
    have G3 := F3.below hb6 (by omega)
    have qL' := qL.carry (w' := y6) (fun x e hp => hb6.block _ (by have := lL x e hp; omega))
    have qW' := qW.carry (w' := y6) (fun x e hp => hb6.block _ (by have := lW x e hp; omega))
    have sY := hb6.size
    clear qP q5 q7 qA qB F6 F8 FA FB vu lP l5 l7 lA lB
    obtain ⟨Z, hZ⟩ : ∃ Z, Z = y6 := ⟨_, rfl⟩
    rw [← hZ] at BY G3 qL' qW' sY ⊢
    clear hZ
    obtain ⟨D1, D2, D3, D4⟩ := G3
    have G3 : FrameAt Z x1.heap.size a b c adL L.length capL := ⟨D1, D2, D3, D4⟩
    go_wp2_with fail
    go_at_call 15
    refine (okImpl a b c adL L.length capL Z hLm).mono ?_
    rintro e z1 ⟨rfl, kz1⟩
    rw [hok]
    have sz1 := kz1.size
    have BZ := BY.trans (kz1.mono (by omega))
    clear D1 D2 D3 D4
    cases ok with
    | false =>
      have hW0 : W = [] := by rw [hW.out]; unfold written; rw [if_neg (by rw [hok]; simp)]
      have hW1 : ((W.length : Int) == 0) = true := by rw [hW0]; rfl
      clear hW0
      go_wp2
      go_ret
      exact ⟨rfl, BZ⟩
    | true =>
      have e1 := frameOf_written hok
      have e2 := frameOf_cut hok
      rw [← hW.out] at e1 e2
      have hWl : 1 ≤ W.length := by rw [hW.out, written_ok hok]; simp
      have qW1 := qW'.carry (w' := z1) (fun x e hp => kz1.block _ (by have := lW x e hp; omega))
      have qL1 := qL'.carry (w' := z1) (fun x e hp => kz1.block _ (by have := lL x e hp; omega))
      have G4 := G3.below kz1 (by omega)
      clear G3 qL' qW'
      go_wp2_with fail
      go_at_call 9
      refine (ofImpl adb capb W z1 qW1 hWb (by omega) nW.1 nW.2 _ _ ((BZ.cell (p := ⟨0, 0, none⟩) hsb).trans hE)).mono ?_
      rintro e z2 ⟨⟨adc, capc, rfl, oc⟩, kc⟩
      rw [e1] at oc ⊢
      simp only [] at oc ⊢
      obtain ⟨qc, _, mc⟩ := own_view2 oc
      clear oc e1
      have sc := kc.size
      have BC := BZ.trans (kc.mono (by omega))
      obtain ⟨z3, hz3⟩ : ∃ y, y = z2.alloc (Obj.cells #[.int .i64 a, .int .i64 b, .int .i64 c, .slice adc L.length capc] 25) := ⟨_, rfl⟩
      have F12 : FrameAt z3 z2.heap.size a b c adc L.length capc := by rw [hz3]; exact frameAt_box z2 _ _ _ _ _ _ _
      have jz3 : Below z2.heap.size z2 z3 := by rw [hz3]; exact below_box z2 _
      have tz3 : z2.heap.size < z3.heap.size := by rw [hz3]; exact size_box z2 _
      have BD := BC.trans (jz3.mono (by omega))
      have qW3 := (qW1.carry (w' := z2) (fun x e hp => kc.block _ (by have := lW x e hp; omega))).carry (w' := z3) (fun x e hp => jz3.block _ (by have := lW x e hp; omega))
      have qL3 := (qL1.carry (w' := z2) (fun x e hp => kc.block _ (by have := lL x e hp; omega))).carry (w' := z3) (fun x e hp => jz3.block _ (by have := lL x e hp; omega))
      have qc3 := qc.carry (w' := z3) (fun x h _ => jz3.block _ (mc x h).2)
      have lc : ∀ x, adc = some x → x.block < z2.heap.size := fun x h => (mc x h).2
      have G5 := (G4.below kc (by omega)).below jz3 (by omega)
      clear qW1 qL1 qc mc G4
      obtain ⟨n1, hn1⟩ : ∃ n1, n1 = W.length - 1 := ⟨_, rfl⟩
      have hlt1 : (W.take n1).length = n1 := by rw [List.length_take]; omega
      have hn2 : (W.length : Int) - 1 = (n1 : Int) := by omega
      have hn3 : Hid (W.length - 1 = n1) := hn1.symm
      rw [← hn1] at e2
      have qcut : View z3 adb (W.take n1).length (fun i => (W.take n1).getD i 0) := by
        rw [hlt1]
        exact (qW3.take (by omega)).congr (fun i hi => by simp [List.getD, hi])
      have hcb : ∀ x ∈ W.take n1, 0 ≤ x ∧ x ≤ 255 := fun x hx => hWb x (List.mem_of_mem_take hx)
      obtain ⟨V, hV⟩ : ∃ V, V = W.take n1 := ⟨_, rfl⟩
      rw [← hV] at e2 hlt1 qcut hcb
      clear hV hn1
      obtain ⟨bb, off, rfl, _⟩ := qW3 (by omega)
      have hc1 : (n1 : Int) ≤ (capb : Int) := by have := nW.1; omega
      have hc2 : 0 ≤ (n1 : Int) := by omega
      clear qW3
      go_wp2_with fail
      go_at_call 9
      rw [← hz3]
      clear hz3
      have hcall := ofImpl (some ⟨bb, off, none⟩) capb V z3 qcut hcb (by omega) (by omega) nW.2 _ _ ((BD.cell (p := ⟨0, 0, none⟩) hsb).trans hE)
      rw [hlt1] at hcall
      refine hcall.mono ?_
      clear hcall
      rintro e z4 ⟨⟨ade, cape, rfl, oe⟩, ke⟩
      have se := ke.size
      have BE := BD.trans (ke.mono (by omega))
      generalize frameOf V = rv at e2 oe ⊢
      obtain ⟨va, vb, vc, vM, vok⟩ := rv
      simp only [] at e2 oe ⊢
      subst e2
      clear oe qcut hcb hlt1
      obtain ⟨z5, hz5⟩ : ∃ y, y = z4.alloc (Obj.cells #[.int .i64 va, .int .i64 vb, .int .i64 vc, .slice ade vM.length cape] 25) := ⟨_, rfl⟩
      have jz5 : Below z4.heap.size z4 z5 := by rw [hz5]; exact below_box z4 _
      have BF := BE.trans (jz5.mono (by omega))
      have qL5 := (qL3.carry (w' := z4) (fun x e hp => ke.block _ (by have := lL x e hp; omega))).carry (w' := z5) (fun x e hp => jz5.block _ (by have := lL x e hp; omega))
      have qc5 := (qc3.carry (w' := z4) (fun x e _ => ke.block _ (by have := lc x e; omega))).carry (w' := z5) (fun x e _ => jz5.block _ (by have := lc x e; omega))
      obtain ⟨D1, D2, D3, D4⟩ := (F12.below ke (by omega)).below jz5 (by omega)
      obtain ⟨E1, E2, E3, E4⟩ := (G5.below ke (by omega)).below jz5 (by omega)
      rw [hz5] at D1 D2 D3 D4 E1 E2 E3 E4
      go_wp2_with fail
      go_at_call 13
      rw [← hz5]
      clear hz5 D1 D2 D3 D4 E1 E2 E3 E4
      refine (sameImpl a b c a b c adc adL L.length capc L.length capL (fun i => L.getD i 0) (fun i => L.getD i 0) z5 qc5 qL5 (getD_bd hLb) (getD_bd hLb)).mono ?_
      rintro e z6 ⟨rfl, k6⟩
      rw [sameF_self]
      go_wp2
      go_ret
      exact ⟨rfl, BF.trans (k6.mono BF.size)⟩
  | true =>
    have heq : eqL (written ra rb rc rM) P = true := by have := frameOf_eq (L := P) (by rw [hr.out]); rw [hr.out] at this; exact this
    clear hr
    go_wp2_with fail
    rw [← hx10]
    clear hx10
    refine wp_region_held (S := fun Y => Below x10.heap.size x10 Y) (by kernel_rfl) ?_
    change wpAnyH _ _ _ _ _ _ _ _ (World.drew _)
    have hb0 : Below x10.heap.size x10 x10.drew := (Below.refl _ _).drew
    refine takeW 0 39 (.slice adb W.length capb) rfl rfl (by kernel_rfl) (by kernel_rfl) (by kernel_rfl) (fun _ _ _ h => h) (by kernel_rfl) (by (intro w hSw; go_simp)) (by assumption) ?_
    simp only [List.set_cons_zero, List.set_cons_succ]
    refine takeW 1 40 (.string (txt W)) rfl rfl (by kernel_rfl) (by kernel_rfl) (by kernel_rfl) (fun _ _ _ h => h) (by kernel_rfl) (by (intro Y hSw; have hcv := conv_view (cap := capb) (qW.carry (w' := Y) (fun x e hp => hSw.block _ (by have := lW x e hp; omega))) hWb; go_simp)) (by assumption) ?_
    simp only [List.set_cons_zero, List.set_cons_succ]
    refine takeW 2 41 (.agg #[.int .i64 a, .int .i64 b, .int .i64 c, .slice adL L.length capL]) rfl rfl (by kernel_rfl) (by kernel_rfl) (by kernel_rfl) (fun _ _ _ h => h) (by kernel_rfl) (by (intro Y hSw; obtain ⟨C1, C2, C3, C4⟩ := F3.below hSw (by omega); go_simp)) (by assumption) ?_
    simp only [List.set_cons_zero, List.set_cons_succ]
    refine wpAnyH_all (rs := [3]) (by kernel_rfl) (by simp) ?_
    intro i hi; obtain rfl : i = 3 := by simpa using hi
    refine wpOp_step rfl (fun K hK => ?_)
    rw [if_pos (by kernel_rfl)]
    go_simp
    go_at_call 12
    refine (bytesSpec a b c adL capL L _ (qL.carry (fun x e hp => hb0.block _ (by have := lL x e hp; omega))) (fun _ h => nL.1 h) hLb (by omega)).mono ?_
    rintro e y1 ⟨v, rfl, ou, ku⟩
    obtain ⟨_, adu, capu, rfl, vu, _, mu⟩ := own_view ou
    rw [← hW.out] at vu
    rw [← hW.out]
    have hb1 : Below x10.heap.size x10 y1 := hb0.trans (ku.mono hb0.size)
    refine hK _ _ ⟨hb1, ?_⟩
    clear hK K hi
    refine wpAnyH_all (rs := [4]) (by kernel_rfl) (by simp) ?_
    intro i hi; obtain rfl : i = 4 := by simpa using hi
    refine wpOp_step rfl (fun K hK => ?_)
    rw [if_pos (by kernel_rfl)]
    go_simp
    have hcv := conv_view (cap := capu) vu hWb
    rw [hcv]
    go_simp
    clear hcv
    refine hK _ _ ⟨hb1, ?_⟩
    clear hK K hi
    refine takeW 5 44 (.bool false) rfl rfl (by kernel_rfl) (by kernel_rfl) (by kernel_rfl) (fun _ _ _ h => h) (by kernel_rfl) (by (intro Y hSw; go_simp)) (by assumption) ?_
    simp only [List.set_cons_zero, List.set_cons_succ]
    refine takeW 6 45 (.bool false) rfl rfl (by kernel_rfl) (by kernel_rfl) (by kernel_rfl) (fun _ _ _ h => h) (by kernel_rfl) (by (intro w hSw; go_simp)) (by assumption) ?_
    simp only [List.set_cons_zero, List.set_cons_succ]
    refine takeW 7 46 (.bool true) rfl rfl (by kernel_rfl) (by kernel_rfl) (by kernel_rfl) (fun _ _ _ h => h) (by kernel_rfl) (by (intro w hSw; go_simp)) (by assumption) ?_
    simp only [List.set_cons_zero, List.set_cons_succ]
    refine takeW 8 47 (.bool true) rfl rfl (by kernel_rfl) (by kernel_rfl) (by kernel_rfl) (fun _ _ _ h => h) (by kernel_rfl) (by (intro w hSw; go_simp)) (by assumption) ?_
    simp only [List.set_cons_zero, List.set_cons_succ]
    refine takeW 9 48 (.bool false) rfl rfl (by kernel_rfl) (by kernel_rfl) (by kernel_rfl) (fun _ _ _ h => h) (by kernel_rfl) (by (intro Y hSw; go_simp)) (by assumption) ?_
    simp only [List.set_cons_zero, List.set_cons_succ]
    refine takeW 10 49 (.bool false) rfl rfl (by kernel_rfl) (by kernel_rfl) (by kernel_rfl) (fun _ _ _ h => h) (by kernel_rfl) (by (intro w hSw; go_simp)) (by assumption) ?_
    simp only [List.set_cons_zero, List.set_cons_succ]
    refine takeW 11 50 (.bool false) rfl rfl (by kernel_rfl) (by kernel_rfl) (by kernel_rfl) (fun _ _ _ h => h) (by kernel_rfl) (by (intro w hSw; go_simp)) (by assumption) ?_
    simp only [List.set_cons_zero, List.set_cons_succ]
    refine takeW 12 51 (.agg #[.int .i64 ra, .int .i64 rb, .int .i64 rc, .slice ad5 rM.length cap5]) rfl rfl (by kernel_rfl) (by kernel_rfl) (by kernel_rfl) (fun _ _ _ h => h) (by kernel_rfl) (by (intro Y hSw; obtain ⟨C1, C2, C3, C4⟩ := F6.below hSw (by omega); go_simp)) (by assumption) ?_
    simp only [List.set_cons_zero, List.set_cons_succ]
    refine takeW 13 52 (.agg #[.int .i64 ra, .int .i64 rb, .int .i64 rc, .slice ad7 rM.length cap7]) rfl rfl (by kernel_rfl) (by kernel_rfl) (by kernel_rfl) (fun _ _ _ h => h) (by kernel_rfl) (by (intro Y hSw; obtain ⟨C1, C2, C3, C4⟩ := F8.below hSw (by omega); go_simp)) (by assumption) ?_
    simp only [List.set_cons_zero, List.set_cons_succ]
    refine wpAnyH_all (rs := [14]) (by kernel_rfl) (by simp) ?_
    intro i hi; obtain rfl : i = 14 := by simpa using hi
    refine wpOp_step rfl (fun K hK => ?_)
    rw [if_pos (by kernel_rfl)]
    go_simp
    go_at_call 13
    refine (sameImpl ra rb rc ra rb rc ad5 ad7 rM.length cap5 rM.length cap7 (fun i => rM.getD i 0) (fun i => rM.getD i 0) _ (q5.carry (fun x e hp => hb1.block _ (by have := l5 x e hp; omega))) (q7.carry (fun x e hp => hb1.block _ (by have := l7 x e hp; omega))) (getD_bd hrb) (getD_bd hrb)).mono ?_
    rintro e y2 ⟨rfl, ks⟩
    rw [sameF_self]
    have hb2 : Below x10.heap.size x10 y2 := hb1.trans (ks.mono hb1.size)
    refine hK _ _ ⟨hb2, ?_⟩
    clear hK K hi
    refine takeW 15 54 (.bool false) rfl rfl (by kernel_rfl) (by kernel_rfl) (by kernel_rfl) (fun _ _ _ h => h) (by kernel_rfl) (by (intro w hSw; go_simp)) (by assumption) ?_
    simp only [List.set_cons_zero, List.set_cons_succ]
    refine takeW 16 55 (.bool false) rfl rfl (by kernel_rfl) (by kernel_rfl) (by kernel_rfl) (fun _ _ _ h => h) (by kernel_rfl) (by (intro w hSw; go_simp)) (by assumption) ?_
    simp only [List.set_cons_zero, List.set_cons_succ]
    refine takeW 17 56 (.bool false) rfl rfl (by kernel_rfl) (by kernel_rfl) (by kernel_rfl) (fun _ _ _ h => h) (by kernel_rfl) (by (intro w hSw; go_simp)) (by assumption) ?_
    simp only [List.set_cons_zero, List.set_cons_succ]
    refine takeW 18 57 (.agg #[.int .i64 a1, .int .i64 b1, .int .i64 c1, .slice ad1 M1.length cap1]) rfl rfl (by kernel_rfl) (by kernel_rfl) (by kernel_rfl) (fun _ _ _ h => h) (by kernel_rfl) (by (intro Y hSw; obtain ⟨C1, C2, C3, C4⟩ := FA.below hSw (by omega); go_simp)) (by assumption) ?_
    simp only [List.set_cons_zero, List.set_cons_succ]
    refine takeW 19 58 (.agg #[.int .i64 a2, .int .i64 b2, .int .i64 c2, .slice ad2 M2.length cap2]) rfl rfl (by kernel_rfl) (by kernel_rfl) (by kernel_rfl) (fun _ _ _ h => h) (by kernel_rfl) (by (intro Y hSw; obtain ⟨C1, C2, C3, C4⟩ := FB.below hSw (by omega); go_simp)) (by assumption) ?_
    simp only [List.set_cons_zero, List.set_cons_succ]
    refine takeW 21 60 (.agg #[.int .i64 a1, .int .i64 b1, .int .i64 c1, .slice ad1 M1.length cap1]) rfl rfl (by kernel_rfl) (by kernel_rfl) (by kernel_rfl) (fun _ _ _ h => h) (by kernel_rfl) (by (intro Y hSw; obtain ⟨C1, C2, C3, C4⟩ := FA.below hSw (by omega); go_simp)) (by assumption) ?_
    simp only [List.set_cons_zero, List.set_cons_succ]
    refine takeW 22 61 (.agg #[.int .i64 a2, .int .i64 b2, .int .i64 c2, .slice ad2 M2.length cap2]) rfl rfl (by kernel_rfl) (by kernel_rfl) (by kernel_rfl) (fun _ _ _ h => h) (by kernel_rfl) (by (intro Y hSw; obtain ⟨C1, C2, C3, C4⟩ := FB.below hSw (by omega); go_simp)) (by assumption) ?_
    simp only [List.set_cons_zero, List.set_cons_succ]
    refine wpAnyH_all (rs := [20]) (by kernel_rfl) (by simp) ?_
    intro i hi; obtain rfl : i = 20 := by simpa using hi
    refine wpOp_step rfl (fun K hK => ?_)
    rw [if_pos (by kernel_rfl)]
    go_simp
    go_at_call 13
    refine (sameImpl a1 b1 c1 a2 b2 c2 ad1 ad2 M1.length cap1 M2.length cap2 (fun i => M1.getD i 0) (fun i => M2.getD i 0) _ (qA.carry (fun x e hp => hb2.block _ (by have := lA x e hp; omega))) (qB.carry (fun x e hp => hb2.block _ (by have := lB x e hp; omega))) (getD_bd hAb) (getD_bd hBb)).mono ?_
    rintro e y3 ⟨rfl, kz3⟩
    rw [hsm]
    have hb3 : Below x10.heap.size x10 y3 := hb2.trans (kz3.mono hb2.size)
    refine hK _ _ ⟨hb3, ?_⟩
    clear hK K hi
    refine wpAnyH_all (rs := [23]) (by kernel_rfl) (by simp) ?_
    intro i hi; obtain rfl : i = 23 := by simpa using hi
    refine wpOp_step rfl (fun K hK => ?_)
    rw [if_pos (by kernel_rfl)]
    go_simp
    go_at_call 14
    refine (sameSpec a1 b1 c1 a2 b2 c2 ad1 ad2 M1.length cap1 M2.length cap2 (fun i => M1.getD i 0) (fun i => M2.getD i 0) _ (qA.carry (fun x e hp => hb3.block _ (by have := lA x e hp; omega))) (qB.carry (fun x e hp => hb3.block _ (by have := lB x e hp; omega))) (getD_bd hAb) (getD_bd hBb) (fun x e hp => by have := lA x e hp; have := hb3.size; omega) (fun x e hp => by have := lB x e hp; have := hb3.size; omega)).mono ?_
    rintro e y4 ⟨rfl, kz4⟩
    rw [hsm]
    have hb4 : Below x10.heap.size x10 y4 := hb3.trans (kz4.mono hb3.size)
    refine hK _ _ ⟨hb4, ?_⟩
    clear hK K hi
    refine takeW 24 63 (.bool false) rfl rfl (by kernel_rfl) (by kernel_rfl) (by kernel_rfl) (fun _ _ _ h => h) (by kernel_rfl) (by (intro Y hSw; go_simp)) (by assumption) ?_
    simp only [List.set_cons_zero, List.set_cons_succ]
    refine takeW 25 64 (.bool false) rfl rfl (by kernel_rfl) (by kernel_rfl) (by kernel_rfl) (fun _ _ _ h => h) (by kernel_rfl) (by (intro w hSw; go_simp)) (by assumption) ?_
    simp only [List.set_cons_zero, List.set_cons_succ]
    refine takeW 26 65 (.bool false) rfl rfl (by kernel_rfl) (by kernel_rfl) (by kernel_rfl) (fun _ _ _ h => h) (by kernel_rfl) (by (intro w hSw; go_simp)) (by assumption) ?_
    simp only [List.set_cons_zero, List.set_cons_succ]
    refine takeW 27 66 (.agg #[.int .i64 a, .int .i64 b, .int .i64 c, .slice adL L.length capL]) rfl rfl (by kernel_rfl) (by kernel_rfl) (by kernel_rfl) (fun _ _ _ h => h) (by kernel_rfl) (by (intro Y hSw; obtain ⟨C1, C2, C3, C4⟩ := F3.below hSw (by omega); go_simp)) (by assumption) ?_
    simp only [List.set_cons_zero, List.set_cons_succ]
    refine takeW 29 68 (.agg #[.int .i64 a, .int .i64 b, .int .i64 c, .slice adL L.length capL]) rfl rfl (by kernel_rfl) (by kernel_rfl) (by kernel_rfl) (fun _ _ _ h => h) (by kernel_rfl) (by (intro Y hSw; obtain ⟨C1, C2, C3, C4⟩ := F3.below hSw (by omega); go_simp)) (by assumption) ?_
    simp only [List.set_cons_zero, List.set_cons_succ]
    refine wpAnyH_all (rs := [28]) (by kernel_rfl) (by simp) ?_
    intro i hi; obtain rfl : i = 28 := by simpa using hi
    refine wpOp_step rfl (fun K hK => ?_)
    rw [if_pos (by kernel_rfl)]
    go_simp
    go_at_call 15
    refine (okImpl a b c adL L.length capL _ hLm).mono ?_
    rintro e y5 ⟨rfl, kz5⟩
    rw [hok]
    have hb5 : Below x10.heap.size x10 y5 := hb4.trans (kz5.mono hb4.size)
    refine hK _ _ ⟨hb5, ?_⟩
    clear hK K hi
    refine wpAnyH_all (rs := [30]) (by kernel_rfl) (by simp) ?_
    intro i hi; obtain rfl : i = 30 := by simpa using hi
    refine wpOp_step rfl (fun K hK => ?_)
    rw [if_pos (by kernel_rfl)]
    go_simp
    go_at_call 16
    refine (okSpec a b c adL L.length capL _ hLm).mono ?_
    rintro e y6 ⟨rfl, kz6⟩
    rw [hok]
    have hb6 : Below x10.heap.size x10 y6 := hb5.trans (kz6.mono hb5.size)
    refine hK _ _ ⟨hb6, ?_⟩
    clear hK K hi
    refine takeW 31 70 (.bool false) rfl rfl (by kernel_rfl) (by kernel_rfl) (by kernel_rfl) (fun _ _ _ h => h) (by kernel_rfl) (by (intro Y hSw; go_simp)) (by assumption) ?_
    simp only [List.set_cons_zero, List.set_cons_succ]
    refine takeW 32 71 (.bool false) rfl rfl (by kernel_rfl) (by kernel_rfl) (by kernel_rfl) (fun _ _ _ h => h) (by kernel_rfl) (by (intro w hSw; go_simp)) (by assumption) ?_
    simp only [List.set_cons_zero, List.set_cons_succ]
    refine takeW 33 72 (.bool false) rfl rfl (by kernel_rfl) (by kernel_rfl) (by kernel_rfl) (fun _ _ _ h => h) (by kernel_rfl) (by (intro w hSw; go_simp)) (by assumption) ?_
    simp only [List.set_cons_zero, List.set_cons_succ]
    refine takeW 34 73 (.bool true) rfl rfl (by kernel_rfl) (by kernel_rfl) (by kernel_rfl) (fun _ _ _ h => h) (by kernel_rfl) (by (intro w hSw; go_simp)) (by assumption) ?_
    simp only [List.set_cons_zero, List.set_cons_succ]
    refine takeW 35 74 (.bool true) rfl rfl (by kernel_rfl) (by kernel_rfl) (by kernel_rfl) (fun _ _ _ h => h) (by kernel_rfl) (by (intro w hSw; go_simp)) (by assumption) ?_
    simp only [List.set_cons_zero, List.set_cons_succ]
    refine takeW 36 75 (.agg #[.int .i64 ra, .int .i64 rb, .int .i64 rc, .slice ad5 rM.length cap5]) rfl rfl (by kernel_rfl) (by kernel_rfl) (by kernel_rfl) (fun _ _ _ h => h) (by kernel_rfl) (by (intro Y hSw; obtain ⟨C1, C2, C3, C4⟩ := F6.below hSw (by omega); go_simp)) (by assumption) ?_
    simp only [List.set_cons_zero, List.set_cons_succ]
    refine takeW 39 78 (.slice adX P.length capX) rfl rfl (by kernel_rfl) (by kernel_rfl) (by kernel_rfl) (fun _ _ _ h => h) (by kernel_rfl) (by (intro w hSw; go_simp)) (by assumption) ?_
    simp only [List.set_cons_zero, List.set_cons_succ]
    refine takeW 40 79 (.string (txt P)) rfl rfl (by kernel_rfl) (by kernel_rfl) (by kernel_rfl) (fun _ _ _ h => h) (by kernel_rfl) (by (intro Y hSw; have hcv := conv_view (cap := capX) (qP.carry (w' := Y) (fun x e hp => hSw.block _ (by have := lP x e hp; omega))) hPb; go_simp)) (by assumption) ?_
    simp only [List.set_cons_zero, List.set_cons_succ]
    refine wpAnyH_all (rs := [37]) (by kernel_rfl) (by simp) ?_
    intro i hi; obtain rfl : i = 37 := by simpa using hi
    refine wpOp_step rfl (fun K hK => ?_)
    rw [if_pos (by kernel_rfl)]
    go_simp
    go_at_call 7
    refine (bytesImpl ra rb rc ad5 cap5 rM _ (q5.carry (fun x e hp => hb6.block _ (by have := l5 x e hp; omega))) (fun _ h => n5.1 h) hrb (by omega)).mono ?_
    rintro e y7 ⟨v, rfl, ou2, ku2⟩
    obtain ⟨_, adv, capv, rfl, vv, _, mv⟩ := own_view ou2
    have hb7 : Below x10.heap.size x10 y7 := hb6.trans (ku2.mono hb6.size)
    refine hK _ _ ⟨hb7, ?_⟩
    clear hK K hi
    refine wpAnyH_all (rs := [38]) (by kernel_rfl) (by simp) ?_
    intro i hi; obtain rfl : i = 38 := by simpa using hi
    refine wpOp_step rfl (fun K hK => ?_)
    rw [if_pos (by kernel_rfl)]
    go_simp
    have hcv := conv_view (cap := capv) vv (written_bd ra rb rc rM hrb)
    rw [hcv]
    go_simp
    clear hcv
    refine hK _ _ ⟨hb7, ?_⟩
    clear hK K hi
    refine takeW 41 80 (.bool false) rfl rfl (by kernel_rfl) (by kernel_rfl) (by kernel_rfl) (fun _ _ _ h => h) (by kernel_rfl) (by (intro Y hSw; have hE' : ((txt (written ra rb rc rM)).toList == (txt P).toList) = true := heq; go_simp)) (by assumption) ?_
    simp only [List.set_cons_zero, List.set_cons_succ]
    refine takeW 42 81 (.bool false) rfl rfl (by kernel_rfl) (by kernel_rfl) (by kernel_rfl) (fun _ _ _ h => h) (by kernel_rfl) (by (intro w hSw; go_simp)) (by assumption) ?_
    simp only [List.set_cons_zero, List.set_cons_succ]
    refine takeW 43 82 (.bool false) rfl rfl (by kernel_rfl) (by kernel_rfl) (by kernel_rfl) (fun _ _ _ h => h) (by kernel_rfl) (by (intro w hSw; go_simp)) (by assumption) ?_
    simp only [List.set_cons_zero, List.set_cons_succ]
    refine wpAnyH_done (by kernel_rfl) ?_ _
    have BY : Below w.heap.size w y7 := B10.trans (hb7.mono (by omega))
    have G3 := F3.below hb7 (by omega)
    have qL' := qL.carry (w' := y7) (fun x e hp => hb7.block _ (by have := lL x e hp; omega))
    have qW' := qW.carry (w' := y7) (fun x e hp => hb7.block _ (by have := lW x e hp; omega))
    have sY := hb7.size
    clear qP q5 q7 qA qB F6 F8 FA FB vu lP l5 l7 lA lB
    obtain ⟨Z, hZ⟩ : ∃ Z, Z = y7 := ⟨_, rfl⟩
    rw [← hZ] at BY G3 qL' qW' sY ⊢
    clear hZ
    obtain ⟨D1, D2, D3, D4⟩ := G3
    have G3 : FrameAt Z x1.heap.size a b c adL L.length capL := ⟨D1, D2, D3, D4⟩
    go_wp2_with fail
    go_at_call 15
    refine (okImpl a b c adL L.length capL Z hLm).mono ?_
    rintro e z1 ⟨rfl, kz1⟩
    rw [hok]
    have sz1 := kz1.size
    have BZ := BY.trans (kz1.mono (by omega))
    clear D1 D2 D3 D4
    cases ok with
    | false =>
      have hW0 : W = [] := by rw [hW.out]; unfold written; rw [if_neg (by rw [hok]; simp)]
      have hW1 : ((W.length : Int) == 0) = true := by rw [hW0]; rfl
      clear hW0
      go_wp2
      go_ret
      exact ⟨rfl, BZ⟩
    | true =>
      have e1 := frameOf_written hok
      have e2 := frameOf_cut hok
      rw [← hW.out] at e1 e2
      have hWl : 1 ≤ W.length := by rw [hW.out, written_ok hok]; simp
      have qW1 := qW'.carry (w' := z1) (fun x e hp => kz1.block _ (by have := lW x e hp; omega))
      have qL1 := qL'.carry (w' := z1) (fun x e hp => kz1.block _ (by have := lL x e hp; omega))
      have G4 := G3.below kz1 (by omega)
      clear G3 qL' qW'
      go_wp2_with fail
      go_at_call 9
      refine (ofImpl adb capb W z1 qW1 hWb (by omega) nW.1 nW.2 _ _ ((BZ.cell (p := ⟨0, 0, none⟩) hsb).trans hE)).mono ?_
      rintro e z2 ⟨⟨adc, capc, rfl, oc⟩, kc⟩
      rw [e1] at oc ⊢
      simp only [] at oc ⊢
      obtain ⟨qc, _, mc⟩ := own_view2 oc
      clear oc e1
      have sc := kc.size
      have BC := BZ.trans (kc.mono (by omega))
      obtain ⟨z3, hz3⟩ : ∃ y, y = z2.alloc (Obj.cells #[.int .i64 a, .int .i64 b, .int .i64 c, .slice adc L.length capc] 25) := ⟨_, rfl⟩
      have F12 : FrameAt z3 z2.heap.size a b c adc L.length capc := by rw [hz3]; exact frameAt_box z2 _ _ _ _ _ _ _
      have jz3 : Below z2.heap.size z2 z3 := by rw [hz3]; exact below_box z2 _
      have tz3 : z2.heap.size < z3.heap.size := by rw [hz3]; exact size_box z2 _
      have BD := BC.trans (jz3.mono (by omega))
      have qW3 := (qW1.carry (w' := z2) (fun x e hp => kc.block _ (by have := lW x e hp; omega))).carry (w' := z3) (fun x e hp => jz3.block _ (by have := lW x e hp; omega))
      have qL3 := (qL1.carry (w' := z2) (fun x e hp => kc.block _ (by have := lL x e hp; omega))).carry (w' := z3) (fun x e hp => jz3.block _ (by have := lL x e hp; omega))
      have qc3 := qc.carry (w' := z3) (fun x h _ => jz3.block _ (mc x h).2)
      have lc : ∀ x, adc = some x → x.block < z2.heap.size := fun x h => (mc x h).2
      have G5 := (G4.below kc (by omega)).below jz3 (by omega)
      clear qW1 qL1 qc mc G4
      obtain ⟨n1, hn1⟩ : ∃ n1, n1 = W.length - 1 := ⟨_, rfl⟩
      have hlt1 : (W.take n1).length = n1 := by rw [List.length_take]; omega
      have hn2 : (W.length : Int) - 1 = (n1 : Int) := by omega
      have hn3 : Hid (W.length - 1 = n1) := hn1.symm
      rw [← hn1] at e2
      have qcut : View z3 adb (W.take n1).length (fun i => (W.take n1).getD i 0) := by
        rw [hlt1]
        exact (qW3.take (by omega)).congr (fun i hi => by simp [List.getD, hi])
      have hcb : ∀ x ∈ W.take n1, 0 ≤ x ∧ x ≤ 255 := fun x hx => hWb x (List.mem_of_mem_take hx)
      obtain ⟨V, hV⟩ : ∃ V, V = W.take n1 := ⟨_, rfl⟩
      rw [← hV] at e2 hlt1 qcut hcb
      clear hV hn1
      obtain ⟨bb, off, rfl, _⟩ := qW3 (by omega)
      have hc1 : (n1 : Int) ≤ (capb : Int) := by have := nW.1; omega
      have hc2 : 0 ≤ (n1 : Int) := by omega
      clear qW3
      go_wp2_with fail
      go_at_call 9
      rw [← hz3]
      clear hz3
      have hcall := ofImpl (some ⟨bb, off, none⟩) capb V z3 qcut hcb (by omega) (by omega) nW.2 _ _ ((BD.cell (p := ⟨0, 0, none⟩) hsb).trans hE)
      rw [hlt1] at hcall
      refine hcall.mono ?_
      clear hcall
      rintro e z4 ⟨⟨ade, cape, rfl, oe⟩, ke⟩
      have se := ke.size
      have BE := BD.trans (ke.mono (by omega))
      generalize frameOf V = rv at e2 oe ⊢
      obtain ⟨va, vb, vc, vM, vok⟩ := rv
      simp only [] at e2 oe ⊢
      subst e2
      clear oe qcut hcb hlt1
      obtain ⟨z5, hz5⟩ : ∃ y, y = z4.alloc (Obj.cells #[.int .i64 va, .int .i64 vb, .int .i64 vc, .slice ade vM.length cape] 25) := ⟨_, rfl⟩
      have jz5 : Below z4.heap.size z4 z5 := by rw [hz5]; exact below_box z4 _
      have BF := BE.trans (jz5.mono (by omega))
      have qL5 := (qL3.carry (w' := z4) (fun x e hp => ke.block _ (by have := lL x e hp; omega))).carry (w' := z5) (fun x e hp => jz5.block _ (by have := lL x e hp; omega))
      have qc5 := (qc3.carry (w' := z4) (fun x e _ => ke.block _ (by have := lc x e; omega))).carry (w' := z5) (fun x e _ => jz5.block _ (by have := lc x e; omega))
      obtain ⟨D1, D2, D3, D4⟩ := (F12.below ke (by omega)).below jz5 (by omega)
      obtain ⟨E1, E2, E3, E4⟩ := (G5.below ke (by omega)).below jz5 (by omega)
      rw [hz5] at D1 D2 D3 D4 E1 E2 E3 E4
      go_wp2_with fail
      go_at_call 13
      rw [← hz5]
      clear hz5 D1 D2 D3 D4 E1 E2 E3 E4
      refine (sameImpl a b c a b c adc adL L.length capc L.length capL (fun i => L.getD i 0) (fun i => L.getD i 0) z5 qc5 qL5 (getD_bd hLb) (getD_bd hLb)).mono ?_
      rintro e z6 ⟨rfl, k6⟩
      rw [sameF_self]
      go_wp2
      go_ret
      exact ⟨rfl, BF.trans (k6.mono BF.size)⟩

theorem gErr : Tryd.prog.globalNamed "loop.example/g00470/impl.errNoNumber" = some 0 := by kernel_rfl
theorem gErrT : (Tryd.prog.globals[0]?).map (·.type) = some 64 := by kernel_rfl
theorem row65 (u : TypeId) (h : Tryd.prog.typeName? 3 u = some "*errors.errorString") : u = 65 := by
  have star : "*" ++ "errors.errorString" = "*errors.errorString" := by decide
  exact typeName_ptr_named (nm := "errors.errorString") (by rw [star]; kernel_rfl) (by kernel_rfl) (by decide) u (by rw [star]; exact h)
theorem sentinel_of_laid {W : World} (h : laidMetH Tryd.prog Rows.fnFramesRow.laid W) : ∃ a : Addr, W.var? Tryd.prog "loop.example/g00470/impl.errNoNumber" = some #[.iface 65 (.pointer (some a))] := by
  rw [MakeChecks.laidMetH_plain _ _ _ (by kernel_rfl)] at h
  obtain ⟨a0, s0, hv0, _⟩ := laid_sentinel (h) gErr gErrT Tryd.underlying64 row65 Tryd.underlying65 Tryd.underlying83 rfl rfl Tryd.underlying9 (by kernel_rfl) (by kernel_rfl)
  exact ⟨a0, hv0⟩

theorem door_met (os : Os) (args : Array Value) : laidMetH Tryd.prog Rows.fnFramesRow.laid ((World.doorLaid Tryd.prog 28 os).forCall (fun _ _ => 0) ⟨#[], args, []⟩).memory :=
  laidMetH_of_parts3 (fuel := 8) (laidMet_of_run' 8 (by kernel_rfl) (by kernel_rfl)) (by kernel_rfl) (by kernel_rfl)

set_option maxRecDepth 100000 in
theorem lifted (os : Os) (started : os.Started) (H : Type) (enc : TypeId × Value → H) :
    ReturnsInHanded {} Tryd.checked os 3 .any (fun w args => (Rows.fnFramesSpec.pre enc Tryd.prog Tryd.f3 [] false w args ∧ laidMetH Tryd.prog Rows.fnFramesRow.laid w) ∧ sizedMet enc Tryd.prog Tryd.f3 (OpenSpec.ofChange Rows.fnFramesSpec) false w args) (Rows.fnFramesSpec.post enc Tryd.prog Tryd.f3 false true false false) := by
  refine returnsInHanded_of_change_and (C := Tryd.checked) (X := fun w _ => laidMetH Tryd.prog Rows.fnFramesRow.laid w) (fun _ _ _ hh h => h.of_heap hh) own started (by kernel_rfl) Tryd.func3
    (ChangeSpec.witness_shaped (enc := enc) (C := Tryd.checked) (os := os) (X := fun w _ => laidMetH Tryd.prog Rows.fnFramesRow.laid w) false (World.doorLaid Tryd.prog 28 os) #[.slice none 0 0] 8 rfl (World.shaped_of_RefB (by kernel_rfl) (by kernel_rfl)) (by kernel_rfl) (by kernel_rfl) (by kernel_rfl) (door_met os _)) ?_
  intro W base args ds gs before hval0 hW _ hsz0 hL _
  have hval : ∀ (j : Nat) t v, Tryd.f3.params[j]? = some t → args[j]? = some v → Value.okWide Tryd.prog W .any base t v := hval0
  have hW' := hW
  obtain ⟨p, q, hA0, hV, rfl, hfz, hnd⟩ := hW
  have hA : DataW.TrodAll enc Tryd.prog W 0 (fun _ => true) true Tryd.f3.params.toList args.toList ds p := hA0
  rw [Tryd.params3] at hA hval
  obtain ⟨v0, vs0, d0, ds0, p0, q0, hargs, rfl, rfl, h0, r0⟩ := trodAll_cons hA
  obtain ⟨rfl, rfl, rfl⟩ := trodAll_nil r0
  obtain rfl : args = #[v0] := by cases args; simp_all
  have hV1 : DataW.TrodVars enc Tryd.prog W (fun _ => true) ["loop.example/g00470/impl.errNoNumber"] gs q := hV
  obtain ⟨sa, hvE⟩ := sentinel_of_laid hL
  obtain ⟨rfl, rfl⟩ := hV1.unique (vars_read1 enc gErr gErrT Tryd.underlying64 hvE trivial _)
  have hcE : W.cell? ⟨0, 0, none⟩ = some (.iface 65 (.pointer (some sa))) := by simpa using World.var?_cell gErr hvE 0
  obtain ⟨a0, len0, cap0, rfl⟩ := okWide_slice Tryd.underlying22 (hval 0 22 v0 rfl rfl)
  have k0 := h0
  have lt0 : ∀ x ∈ p0, x.block < W.heap.size := by obtain ⟨m, hm⟩ := k0; exact DataW.trod_lt m _ _ _ hm
  obtain ⟨z0, w0⟩ : ∃ zs, IsRow .u8 W a0 len0 cap0 zs := by
    obtain ⟨fuel, hf⟩ := h0
    rcases open_ints Tryd.underlying22 Tryd.underlying5 (by kernel_rfl) hf with ⟨hcs, _⟩ | ⟨x, l, c, zs, hcs, _, hl, hm, hz, _, hcell, hwz⟩
    · simp [Value.cells] at hcs
      obtain ⟨rfl, rfl, rfl⟩ := hcs
      exact ⟨[], .inl ⟨rfl, rfl, rfl, rfl⟩⟩
    · simp [Value.cells] at hcs
      obtain ⟨rfl, rfl, rfl⟩ := hcs
      exact ⟨zs, .inr ⟨_, rfl, hl, hm, by simpa using hz, hcell, hwz⟩⟩
  clear hA0 hval0
  refine (walk a0 len0 cap0 z0 W w0 _ _ hcE).mono fun e W' ⟨he, bel⟩ => ?_
  subst he
  exact ⟨_, rfl, _, _, _, [], _, [.cell 0 0], hW', trodAll_mk1 (shut_bool Tryd.underlying4 _), (trodAll_cons_mk (Below.trod laidOut (by kernel_rfl) (of_decide_eq_true (by kernel_rfl)) k0 bel lt0) trodAll_mk0), vars_read1 enc gErr gErrT Tryd.underlying64 (Joins.var_stays gErr hvE bel (Nat.le_refl _)) trivial _, bel.frame _, fun h => by cases h⟩

theorem over : Rows.fnFramesRow.holds Tryd.pinned (OpenSpec.ofChange Rows.fnFramesSpec) :=
  OpenClaim.holds_of_wide 3 Tryd.f3 rfl rfl rfl rfl rfl rfl rfl ⟨rfl, rfl, rfl, rfl, rfl⟩ rfl rfl rfl rfl rfl (by kernel_rfl) Tryd.func3 (by kernel_rfl)
    (of_decide_eq_true (by kernel_rfl)) (by unfold Func.isWrapper; first | (rw [if_pos (by decide +kernel)]; kernel_rfl) | (rw [if_neg (by decide +kernel)]; exact ⟨rfl, rfl⟩))
    (fun os started H enc _ => lifted os started H enc)

theorem proved : Rows.FnFramesSaid := over
end Go.Proofs.YtpdlliehdmeboaaDoor.fnFrames
namespace Go.Proofs.YtpdlliehdmeboaaDoor
theorem frames_holds : Rows.FnFramesCardSaid :=
  Claim7.holds_tied_plain_at .later [] [.sentinel] true (true, "2aba7f780a20155b4b225bb469134862786f285d35f4533ddca6d7f7c18c1941") false
    fnFrames.proved (fun _ h => by cases h) (by kernel_rfl) (fun _ h => by cases h) fnFrames_row_tie rfl ⟨rfl, rfl⟩ (by kernel_rfl) rfl
    (fun f fn hf hfn => by
      obtain rfl : f = 3 := Option.some.inj ((show Tryd.prog.funcNamed "loop.example/g00470/laws.FnFrames" = some 3 by kernel_rfl).symm.trans hf) |>.symm
      obtain rfl : fn = Tryd.f3 := (Option.some.inj (Tryd.func3.symm.trans hfn)).symm
      exact ⟨by kernel_rfl, fun j t ht => by
        rw [Tryd.params3] at ht
        have hm : t ∈ [22] := by simpa using Array.mem_of_getElem? ht
        have hall : ([22].all fun u => !Tryd.prog.wantsStandIn u) = true := by kernel_rfl
        exact (show Tryd.prog.wantsStandIn t = false by simpa using List.all_eq_true.1 hall t hm)⟩)
    (by kernel_rfl)
#print axioms frames_holds
end Go.Proofs.YtpdlliehdmeboaaDoor
