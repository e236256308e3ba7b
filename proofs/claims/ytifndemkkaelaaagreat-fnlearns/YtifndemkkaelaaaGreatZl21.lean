/- spec.Outside, walked. What Inside and Outside answer is no longer than what came. The small functions over lists of what goes out that the laws call. -/
import Derived.Test.YtifndemkkaelaaaGreatRows
import Derived.WalkKit
import Derived.ProofKit
import Derived.OpenShut
import Derived.ShutString
import Derived.ChangeOld
import Derived.Below
import Derived.Deep.QuietTactic
import Derived.BigQuiet
import Derived.WalkSmall
import Derived.Laws.OwnMore
import Derived.WalkSpells
import Derived.WalkLawsBesides
import Derived.Test.YtifndemkkaelaaaGreatZl15
import Derived.Test.YtifndemkkaelaaaGreatZlNets5
import Derived.Test.YtifndemkkaelaaaGreatZl4
import Derived.Test.YtifndemkkaelaaaGreatZl1
namespace Go.Proofs.YtifndemkkaelaaaGreat
open Go.ChangeShapes Go.WideShapes Go.ChangeAt Go.RowKit
open Go.ChangeMaps (open_string shut_string)
set_option linter.unusedVariables false
set_option maxRecDepth 100000

set_option maxHeartbeats 2000000 in
theorem outsideS (own : Int) (ad : Option Addr) (len cap : Nat) (f : Nat → Int) (a b c : Int) (adL : Option Addr) (capL : Nat) (L : List Int) (w : World) (hv : ViewI w ad len f) (hm : len ≤ maxLen) (hvL : View w adL L.length (fun i => L.getD i 0)) (hmL : L.length ≤ 1048576) (hnil : L = [] → adL = none → capL = 0) :
    Calls Tryz.prog 49 #[.agg #[.int .i64 own, .slice ad len cap], .agg #[.int .i64 a, .int .i64 b, .int .i64 c, .slice adL L.length capL]] w fun e w' => OwnFB w (outR own f len a b c L) e w' := by
  have hmL' : L.length ≤ maxLen := by unfold maxLen; omega
  obtain ⟨x0, hx⟩ : ∃ x, x = ((w.alloc (Obj.cells #[.int .i64 own, .slice ad len cap] 50)).alloc (Obj.cells #[.int .i64 a, .int .i64 b, .int .i64 c, .slice adL L.length capL] 30)).alloc (Obj.cells #[.int .i64 0, .int .i64 0, .int .i64 0, .slice none 0 0] 30) := ⟨_, rfl⟩
  have B0 : Below w.heap.size w x0 := by rw [hx]; exact (((Below.refl _ _).alloc (Nat.le_refl _) _).alloc (by simp) _).alloc (by simp; omega) _
  have T0 : w.heap.size + 1 + 1 < x0.heap.size := by rw [hx]; simp
  have M0 : MemAt x0 w.heap.size own ad len cap := by rw [hx]; refine ⟨?_, ?_⟩ <;> simp [go_sem]
  have F0 : FrameAt x0 (w.heap.size + 1) a b c adL L.length capL := by rw [hx]; refine ⟨?_, ?_, ?_, ?_⟩ <;> simp [go_sem]
  have R0 : FrameAt x0 (w.heap.size + 1 + 1) 0 0 0 none 0 0 := by rw [hx]; refine ⟨?_, ?_, ?_, ?_⟩ <;> simp [go_sem]
  have Z0 : ∀ i, x0.frozen? ⟨w.heap.size + 1 + 1, i, none⟩ = false := by intro i; rw [hx]; simp [go_sem]
  have hv0 := hv.below B0 (Nat.le_refl _)
  have hvL0 : View x0 adL L.length (fun i => L.getD i 0) := hvL.carry (fun x h hp => B0.block _ (hvL.lt x h hp))
  by_cases hc : c = own
  · obtain rfl : own = c := hc.symm
    clear hc
    have hn : True := trivial
    obtain ⟨C1, C2⟩ := M0
    obtain ⟨E1, E2, E3, E4⟩ := F0
    have F0 : FrameAt x0 (w.heap.size + 1) a b own adL L.length capL := ⟨E1, E2, E3, E4⟩
    rw [hx] at E1 E2 E3 E4
    go_enter Tryz.func49, Tryz.ntmps49
    go_wp2_with fail
    go_at_call 97
    rw [← hx]
    clear hx E1 E2 E3 E4
    refine (copyF a b own adL capL L x0 hvL0 hnil hmL).mono ?_
    rintro e x1 ⟨ad1, cap1, rfl, o1, k1⟩
    have s1 := k1.size
    have B1 := B0.trans (k1.mono (by omega))
    obtain ⟨x2, hx2⟩ : ∃ x, x = x1.alloc (Obj.cells #[.int .i64 a, .int .i64 b, .int .i64 own, .slice ad1 L.length cap1] 30) := ⟨_, rfl⟩
    have k2 : Below x1.heap.size x1 x2 := by rw [hx2]; exact below_box x1 _
    have s2 : x1.heap.size < x2.heap.size := by rw [hx2]; exact size_box x1 _
    have G2 : FrameAt x2 x1.heap.size a b own ad1 L.length cap1 := by rw [hx2]; exact frameAt_box x1 _ _ _ _ _ _ _
    have y2 : ∀ i, x2.frozen? ⟨x1.heap.size, i, none⟩ = false := by intro i; rw [hx2]; simp [go_sem]
    have k02 := k1.trans (k2.mono s1)
    have B2 := B0.trans (k02.mono (by omega))
    have M2 : MemAt x2 w.heap.size own ad len cap := MemAt.below (w := x0) ⟨C1, C2⟩ k02 (by omega)
    have F2 := F0.below k02 (by omega)
    have R2 := R0.below k02 (by omega)
    have Z2 := fz_below Z0 k02 (by omega)
    have hv2 := hv0.below k02 (Nat.le_refl _)
    have o2 := own_carry o1 k2
    clear C1 C2 F0 R0 Z0
    obtain ⟨C1, C2⟩ := M2
    have M2 : MemAt x2 w.heap.size own ad len cap := ⟨C1, C2⟩
    obtain ⟨E1, E2, E3, E4⟩ := F2
    have F2 : FrameAt x2 (w.heap.size + 1) a b own adL L.length capL := ⟨E1, E2, E3, E4⟩
    rw [hx2] at C1 C2
    go_wp2_with fail
    go_at_call 56
    rw [← hx2]
    clear hx2 C1 C2 E1 E2 E3 E4
    refine (memberOkS own ad len cap f x2 hv2 hm).mono ?_
    rintro e x3 ⟨rfl, k3⟩
    have s3 := k3.size
    have B3 := B2.trans (k3.mono (by omega))
    cases hmo : mOk own f len with
    | false =>
      have hres : Hid (outR own f len a b own L = FR.no) := outR_no (by rw [hmo]; simp)
      have RW := R2.below k3 (by omega)
      have ZW := fz_below Z2 k3 (by omega)
      clear hmo hn
      obtain ⟨r1, r2, r3, r4⟩ := RW
      have z0 := ZW 0
      have z1 := ZW 1
      have z2 := ZW 2
      have z3 := ZW 3
      go_wp2
      refine bodyPost_ret (v := .tuple #[.agg #[.int .i64 0, .int .i64 0, .int .i64 0, .slice none 0 0], .bool false]) (by simp [results, Tryz.results49, go_sem, *]) rfl ?_
      rw [hres.out]
      exact ownFB_no _ rfl (((((B3).setCell (by simp; omega) _).setCell (by simp; omega) _).setCell (by simp; omega) _).setCell (by simp; omega) _)
    | true =>
      obtain ⟨E1, E2, E3, E4⟩ := F2.below k3 (by omega)
      go_wp2_with fail
      go_at_call 98
      refine (okSpec a b own adL L.length capL x3 hmL').mono ?_
      rintro e x4 ⟨rfl, k4⟩
      clear E1 E2 E3 E4
      have s4 := k4.size
      have k24 := k3.trans (k4.mono s3)
      have B4 := B2.trans (k24.mono (by omega))
      have RW := R2.below k24 (by omega)
      have ZW := fz_below Z2 k24 (by omega)
      cases hok : okF a b own L.length with
      | false =>
        have hres : Hid (outR own f len a b own L = FR.no) := outR_no (by rw [hok]; simp)
        clear hok hmo hn
        obtain ⟨r1, r2, r3, r4⟩ := RW
        have z0 := ZW 0
        have z1 := ZW 1
        have z2 := ZW 2
        have z3 := ZW 3
        go_wp2
        refine bodyPost_ret (v := .tuple #[.agg #[.int .i64 0, .int .i64 0, .int .i64 0, .slice none 0 0], .bool false]) (by simp [results, Tryz.results49, go_sem, *]) rfl ?_
        rw [hres.out]
        exact ownFB_no _ rfl (((((B4).setCell (by simp; omega) _).setCell (by simp; omega) _).setCell (by simp; omega) _).setCell (by simp; omega) _)
      | true =>
        obtain ⟨C1, C2⟩ := M2.below k24 (by omega)
        obtain ⟨E1, E2, E3, E4⟩ := F2.below k24 (by omega)
        have G4 := G2.below k24 (by omega)
        obtain ⟨G1, G2, G3, G4⟩ := G4
        go_wp2_with fail
        go_at_call 99
        refine (l4Has ad len cap f own x4 (hv2.below k24 (Nat.le_refl _)) hm).mono ?_
        rintro e x5 ⟨rfl, h5⟩
        subst h5
        cases hh : hasIn f len own with
        | false =>
          have hres : Hid (outR own f len a b own L = FR.no) := outR_no (by rw [hh]; simp)
          clear hh hok hmo hn
          obtain ⟨r1, r2, r3, r4⟩ := RW
          have z0 := ZW 0
          have z1 := ZW 1
          have z2 := ZW 2
          have z3 := ZW 3
          go_wp2
          refine bodyPost_ret (v := .tuple #[.agg #[.int .i64 0, .int .i64 0, .int .i64 0, .slice none 0 0], .bool false]) (by simp [results, Tryz.results49, go_sem, *]) rfl ?_
          rw [hres.out]
          exact ownFB_no _ rfl (((((B4).setCell (by simp; omega) _).setCell (by simp; omega) _).setCell (by simp; omega) _).setCell (by simp; omega) _)
        | true =>
          have hres : Hid (outR own f len a b own L = ⟨a, b, 0, L, true⟩) := by
            have := outR_yes (own := own) (f := f) (n := len) (a := a) (b := b) (c := own) (L := L) ⟨hok, hmo, by exact hh⟩
            rw [if_pos rfl] at this; exact this
          have o5 := own_carry o2 k24
          obtain ⟨r1, r2, r3, r4⟩ := RW
          have z0 := ZW 0
          have z1 := ZW 1
          have z2 := ZW 2
          have z3 := ZW 3
          have yz := (World.frozen?_of_block (a := ⟨x1.heap.size, 2, none⟩) (k24.block _ (by show x1.heap.size < _; omega))).trans (y2 2)
          have nP : w.heap.size + 1 + 1 ≠ x1.heap.size := by omega
          clear hh hok hmo hn
          go_wp2
          refine bodyPost_ret (v := .tuple #[.agg #[.int .i64 a, .int .i64 b, .int .i64 0, .slice ad1 L.length cap1], .bool true]) (by simp [results, Tryz.results49, go_sem, *]) rfl ?_
          rw [hres.out]
          have o6 : (x5.setCell ⟨x1.heap.size, 2, none⟩ (.int .i64 0)).ownsRow x0.heap.size 5 1 (.slice ad1 L.length cap1) L.length (L.map (Value.int .u8)) := own_keep2 o5 (g := x1.heap.size) (fun x h => by have := ((own_view2 o1).2.2 x h).2; omega) (fun k hk => Below.heap_setCell _ _ _ _ hk)
          refine ⟨ad1, cap1, rfl, own_base (own_keep o6 (fun g hg => ?_)) (by omega : w.heap.size ≤ x0.heap.size), (((((B4).setCell (by simp; omega) _).setCell (by simp; omega) _).setCell (by simp; omega) _).setCell (by simp; omega) _).setCell (by simp; omega) _⟩
          rw [Below.heap_setCell _ _ _ _ (by show g ≠ w.heap.size + 1 + 1; omega), Below.heap_setCell _ _ _ _ (by show g ≠ w.heap.size + 1 + 1; omega), Below.heap_setCell _ _ _ _ (by show g ≠ w.heap.size + 1 + 1; omega), Below.heap_setCell _ _ _ _ (by show g ≠ w.heap.size + 1 + 1; omega)]
  · skip
    have hn : True := trivial
    obtain ⟨C1, C2⟩ := M0
    obtain ⟨E1, E2, E3, E4⟩ := F0
    have F0 : FrameAt x0 (w.heap.size + 1) a b c adL L.length capL := ⟨E1, E2, E3, E4⟩
    rw [hx] at E1 E2 E3 E4
    go_enter Tryz.func49, Tryz.ntmps49
    go_wp2_with fail
    go_at_call 97
    rw [← hx]
    clear hx E1 E2 E3 E4
    refine (copyF a b c adL capL L x0 hvL0 hnil hmL).mono ?_
    rintro e x1 ⟨ad1, cap1, rfl, o1, k1⟩
    have s1 := k1.size
    have B1 := B0.trans (k1.mono (by omega))
    obtain ⟨x2, hx2⟩ : ∃ x, x = x1.alloc (Obj.cells #[.int .i64 a, .int .i64 b, .int .i64 c, .slice ad1 L.length cap1] 30) := ⟨_, rfl⟩
    have k2 : Below x1.heap.size x1 x2 := by rw [hx2]; exact below_box x1 _
    have s2 : x1.heap.size < x2.heap.size := by rw [hx2]; exact size_box x1 _
    have G2 : FrameAt x2 x1.heap.size a b c ad1 L.length cap1 := by rw [hx2]; exact frameAt_box x1 _ _ _ _ _ _ _
    have y2 : ∀ i, x2.frozen? ⟨x1.heap.size, i, none⟩ = false := by intro i; rw [hx2]; simp [go_sem]
    have k02 := k1.trans (k2.mono s1)
    have B2 := B0.trans (k02.mono (by omega))
    have M2 : MemAt x2 w.heap.size own ad len cap := MemAt.below (w := x0) ⟨C1, C2⟩ k02 (by omega)
    have F2 := F0.below k02 (by omega)
    have R2 := R0.below k02 (by omega)
    have Z2 := fz_below Z0 k02 (by omega)
    have hv2 := hv0.below k02 (Nat.le_refl _)
    have o2 := own_carry o1 k2
    clear C1 C2 F0 R0 Z0
    obtain ⟨C1, C2⟩ := M2
    have M2 : MemAt x2 w.heap.size own ad len cap := ⟨C1, C2⟩
    obtain ⟨E1, E2, E3, E4⟩ := F2
    have F2 : FrameAt x2 (w.heap.size + 1) a b c adL L.length capL := ⟨E1, E2, E3, E4⟩
    rw [hx2] at C1 C2
    go_wp2_with fail
    go_at_call 56
    rw [← hx2]
    clear hx2 C1 C2 E1 E2 E3 E4
    refine (memberOkS own ad len cap f x2 hv2 hm).mono ?_
    rintro e x3 ⟨rfl, k3⟩
    have s3 := k3.size
    have B3 := B2.trans (k3.mono (by omega))
    cases hmo : mOk own f len with
    | false =>
      have hres : Hid (outR own f len a b c L = FR.no) := outR_no (by rw [hmo]; simp)
      have RW := R2.below k3 (by omega)
      have ZW := fz_below Z2 k3 (by omega)
      clear hmo hn
      obtain ⟨r1, r2, r3, r4⟩ := RW
      have z0 := ZW 0
      have z1 := ZW 1
      have z2 := ZW 2
      have z3 := ZW 3
      go_wp2
      refine bodyPost_ret (v := .tuple #[.agg #[.int .i64 0, .int .i64 0, .int .i64 0, .slice none 0 0], .bool false]) (by simp [results, Tryz.results49, go_sem, *]) rfl ?_
      rw [hres.out]
      exact ownFB_no _ rfl (((((B3).setCell (by simp; omega) _).setCell (by simp; omega) _).setCell (by simp; omega) _).setCell (by simp; omega) _)
    | true =>
      obtain ⟨E1, E2, E3, E4⟩ := F2.below k3 (by omega)
      go_wp2_with fail
      go_at_call 98
      refine (okSpec a b c adL L.length capL x3 hmL').mono ?_
      rintro e x4 ⟨rfl, k4⟩
      clear E1 E2 E3 E4
      have s4 := k4.size
      have k24 := k3.trans (k4.mono s3)
      have B4 := B2.trans (k24.mono (by omega))
      have RW := R2.below k24 (by omega)
      have ZW := fz_below Z2 k24 (by omega)
      cases hok : okF a b c L.length with
      | false =>
        have hres : Hid (outR own f len a b c L = FR.no) := outR_no (by rw [hok]; simp)
        clear hok hmo hn
        obtain ⟨r1, r2, r3, r4⟩ := RW
        have z0 := ZW 0
        have z1 := ZW 1
        have z2 := ZW 2
        have z3 := ZW 3
        go_wp2
        refine bodyPost_ret (v := .tuple #[.agg #[.int .i64 0, .int .i64 0, .int .i64 0, .slice none 0 0], .bool false]) (by simp [results, Tryz.results49, go_sem, *]) rfl ?_
        rw [hres.out]
        exact ownFB_no _ rfl (((((B4).setCell (by simp; omega) _).setCell (by simp; omega) _).setCell (by simp; omega) _).setCell (by simp; omega) _)
      | true =>
        obtain ⟨C1, C2⟩ := M2.below k24 (by omega)
        obtain ⟨E1, E2, E3, E4⟩ := F2.below k24 (by omega)
        have G4 := G2.below k24 (by omega)
        obtain ⟨G1, G2, G3, G4⟩ := G4
        go_wp2_with fail
        go_at_call 99
        refine (l4Has ad len cap f c x4 (hv2.below k24 (Nat.le_refl _)) hm).mono ?_
        rintro e x5 ⟨rfl, h5⟩
        subst h5
        cases hh : hasIn f len c with
        | false =>
          have hres : Hid (outR own f len a b c L = FR.no) := outR_no (by rw [hh]; simp)
          clear hh hok hmo hn
          obtain ⟨r1, r2, r3, r4⟩ := RW
          have z0 := ZW 0
          have z1 := ZW 1
          have z2 := ZW 2
          have z3 := ZW 3
          go_wp2
          refine bodyPost_ret (v := .tuple #[.agg #[.int .i64 0, .int .i64 0, .int .i64 0, .slice none 0 0], .bool false]) (by simp [results, Tryz.results49, go_sem, *]) rfl ?_
          rw [hres.out]
          exact ownFB_no _ rfl (((((B4).setCell (by simp; omega) _).setCell (by simp; omega) _).setCell (by simp; omega) _).setCell (by simp; omega) _)
        | true =>
          have hres : Hid (outR own f len a b c L = ⟨a, b, c, L, true⟩) := by
            have := outR_yes (own := own) (f := f) (n := len) (a := a) (b := b) (c := c) (L := L) ⟨hok, hmo, by exact hh⟩
            rw [if_neg hc] at this; exact this
          have o5 := own_carry o2 k24
          obtain ⟨r1, r2, r3, r4⟩ := RW
          have z0 := ZW 0
          have z1 := ZW 1
          have z2 := ZW 2
          have z3 := ZW 3
          have yz := (World.frozen?_of_block (a := ⟨x1.heap.size, 2, none⟩) (k24.block _ (by show x1.heap.size < _; omega))).trans (y2 2)
          have hd : decide (c = own) = false := decide_eq_false hc
          have nP : w.heap.size + 1 + 1 ≠ x1.heap.size := by omega
          clear hh hok hmo hn
          go_wp2
          refine bodyPost_ret (v := .tuple #[.agg #[.int .i64 a, .int .i64 b, .int .i64 c, .slice ad1 L.length cap1], .bool true]) (by simp [results, Tryz.results49, go_sem, *]) rfl ?_
          rw [hres.out]
          refine ⟨ad1, cap1, rfl, own_base (own_keep o5 (fun g hg => ?_)) (by omega : w.heap.size ≤ x0.heap.size), ((((B4).setCell (by simp; omega) _).setCell (by simp; omega) _).setCell (by simp; omega) _).setCell (by simp; omega) _⟩
          rw [Below.heap_setCell _ _ _ _ (by show g ≠ w.heap.size + 1 + 1; omega), Below.heap_setCell _ _ _ _ (by show g ≠ w.heap.size + 1 + 1; omega), Below.heap_setCell _ _ _ _ (by show g ≠ w.heap.size + 1 + 1; omega), Below.heap_setCell _ _ _ _ (by show g ≠ w.heap.size + 1 + 1; omega)]

end Go.Proofs.YtifndemkkaelaaaGreat
namespace Go.Proofs.YtifndemkkaelaaaGreat
open Go.ChangeShapes Go.WideShapes Go.ChangeAt Go.RowKit
open Go.ChangeMaps (open_string shut_string)
set_option linter.unusedVariables false
set_option maxRecDepth 100000

theorem insR_len (own : Int) (f : Nat → Int) (n : Nat) (a b c : Int) (L : List Int) : (insR own f n a b c L).M.length ≤ L.length := by
  unfold insR
  split
  · exact Nat.le_refl _
  · exact Nat.zero_le _
theorem outR_len (own : Int) (f : Nat → Int) (n : Nat) (a b c : Int) (L : List Int) : (outR own f n a b c L).M.length ≤ L.length := by
  unfold outR
  split
  · exact Nat.le_refl _
  · exact Nat.zero_le _

end Go.Proofs.YtifndemkkaelaaaGreat
namespace Go.Proofs.YtifndemkkaelaaaGreat
open Go.ChangeShapes Go.WideShapes Go.ChangeAt Go.RowKit
open Go.ChangeMaps (open_string shut_string)
set_option linter.unusedVariables false
set_option maxRecDepth 100000

def lToO (Ms : List Ob) : Nat → Nat
  | 0 => 0
  | j + 1 => lToO Ms j + (Ms.getD j Ob.nil).L.length
end Go.Proofs.YtifndemkkaelaaaGreat
