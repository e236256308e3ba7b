/- impl.Inside, walked. -/
import Derived.Test.YtmeofihjimgldaaRows
import Derived.WalkKit
import Derived.ProofKit
import Derived.OpenShut
import Derived.ShutString
import Derived.ChangeOld
import Derived.Below
import Derived.Deep.QuietTactic
import Derived.BigQuiet
import Derived.WalkSmall
import Derived.Laws.OwnMore
import Derived.WalkSpells
import Derived.WalkLawsBesides
import Derived.Test.YtmeofihjimgldaaFrameOwn
import Derived.Test.YtmeofihjimgldaaNets4
import Derived.Test.YtmeofihjimgldaaTakes
namespace Go.Proofs.Ytmeofihjimgldaa
open Go.ChangeShapes Go.WideShapes Go.ChangeAt Go.RowKit
open Go.ChangeMaps (open_string shut_string)
set_option linter.unusedVariables false

theorem mOk_has (own : Int) (f : Nat → Int) (n : Nat) (k : Int) : (mOk own f n && (decide (1 ≤ k ∧ k ≤ 4) && hasIn f n k)) = (mOk own f n && hasIn f n k) := by
  cases h : mOk own f n
  · rfl
  cases hi : hasIn f n k
  · simp
  · have h' : (asc f n && (decide (1 ≤ own ∧ own ≤ 4) && hasIn f n own)) = true := h
    simp only [Bool.and_eq_true] at h'
    obtain ⟨i, hi', e⟩ := (hasIn_iff f k n).1 hi
    have := asc_in h'.1 i hi'
    rw [e] at this
    rw [decide_eq_true this]; rfl
/-- The net of a frame that came in. -/
def netOf (own c : Int) : Int := if c = 0 then own else c
/-- What Inside answers. -/
def insR (own : Int) (f : Nat → Int) (n : Nat) (a b c : Int) (L : List Int) : FR :=
  if okF a b c L.length = true ∧ mOk own f n = true ∧ hasIn f n (netOf own c) = true then ⟨a, b, netOf own c, L, true⟩ else FR.no
/-- What Outside answers. -/
def outR (own : Int) (f : Nat → Int) (n : Nat) (a b c : Int) (L : List Int) : FR :=
  if okF a b c L.length = true ∧ mOk own f n = true ∧ hasIn f n c = true then ⟨a, b, if c = own then 0 else c, L, true⟩ else FR.no
theorem insR_no {own : Int} {f : Nat → Int} {n : Nat} {a b c : Int} {L : List Int} (h : ¬ (okF a b c L.length = true ∧ mOk own f n = true ∧ hasIn f n (netOf own c) = true)) : insR own f n a b c L = FR.no := if_neg h
theorem insR_yes {own : Int} {f : Nat → Int} {n : Nat} {a b c : Int} {L : List Int} (h : okF a b c L.length = true ∧ mOk own f n = true ∧ hasIn f n (netOf own c) = true) : insR own f n a b c L = ⟨a, b, netOf own c, L, true⟩ := if_pos h
theorem outR_no {own : Int} {f : Nat → Int} {n : Nat} {a b c : Int} {L : List Int} (h : ¬ (okF a b c L.length = true ∧ mOk own f n = true ∧ hasIn f n c = true)) : outR own f n a b c L = FR.no := if_neg h
theorem outR_yes {own : Int} {f : Nat → Int} {n : Nat} {a b c : Int} {L : List Int} (h : okF a b c L.length = true ∧ mOk own f n = true ∧ hasIn f n c = true) : outR own f n a b c L = ⟨a, b, if c = own then 0 else c, L, true⟩ := if_pos h
theorem ownFB_no {w w' : World} (e : Ending) (he : e = .returned (.tuple #[.agg #[.int .i64 0, .int .i64 0, .int .i64 0, .slice none 0 0], .bool false])) (k : Below w.heap.size w w') : OwnFB w FR.no e w' :=
  ⟨none, 0, he, World.ownsRow_nil _ _ _ _, k⟩
set_option maxHeartbeats 2000000 in
theorem insideI (own : Int) (ad : Option Addr) (len cap : Nat) (f : Nat → Int) (a b c : Int) (adL : Option Addr) (capL : Nat) (L : List Int) (w : World) (hv : ViewI w ad len f) (hm : len ≤ maxLen) (hvL : View w adL L.length (fun i => L.getD i 0)) (hmL : L.length ≤ 1048576) :
    Calls Try.prog 12 #[.agg #[.int .i64 own, .slice ad len cap], .agg #[.int .i64 a, .int .i64 b, .int .i64 c, .slice adL L.length capL]] w fun e w' => OwnFB w (insR own f len a b c L) e w' := by
  have hmL' : L.length ≤ maxLen := by unfold maxLen; omega
  obtain ⟨x0, hx⟩ : ∃ x, x = ((w.alloc (Obj.cells #[.int .i64 own, .slice ad len cap] 26)).alloc (Obj.cells #[.int .i64 a, .int .i64 b, .int .i64 c, .slice adL L.length capL] 28)).alloc (Obj.cells #[.int .i64 0, .int .i64 0, .int .i64 0, .slice none 0 0] 28) := ⟨_, rfl⟩
  have B0 : Below w.heap.size w x0 := by rw [hx]; exact (((Below.refl _ _).alloc (Nat.le_refl _) _).alloc (by simp) _).alloc (by simp; omega) _
  have T0 : w.heap.size + 1 + 1 < x0.heap.size := by rw [hx]; simp
  have M0 : MemAt x0 w.heap.size own ad len cap := by rw [hx]; refine ⟨?_, ?_⟩ <;> simp [go_sem]
  have F0 : FrameAt x0 (w.heap.size + 1) a b c adL L.length capL := by rw [hx]; refine ⟨?_, ?_, ?_, ?_⟩ <;> simp [go_sem]
  have R0 : FrameAt x0 (w.heap.size + 1 + 1) 0 0 0 none 0 0 := by rw [hx]; refine ⟨?_, ?_, ?_, ?_⟩ <;> simp [go_sem]
  have Z0 : ∀ i, x0.frozen? ⟨w.heap.size + 1 + 1, i, none⟩ = false := by intro i; rw [hx]; simp [go_sem]
  have hv0 := hv.below B0 (Nat.le_refl _)
  have hvL0 : View x0 adL L.length (fun i => L.getD i 0) := hvL.carry (fun x h hp => B0.block _ (hvL.lt x h hp))
  by_cases hc : c = 0
  · subst hc
    have hn : netOf own 0 = own := rfl
    have okd := fits (w.heap.size + 1) a b 0 adL L.length capL x0 hmL' F0
    obtain ⟨C1, C2⟩ := M0
    go_enter Try.func12, Try.ntmps12
    go_wp2_with fail
    go_at_call 27
    rw [← hx]
    clear hx
    refine okd.mono ?_
    rintro e x1 ⟨rfl, rfl⟩
    cases hok : okF a b 0 L.length with
    | false =>
      have hres : Hid (insR own f len a b 0 L = FR.no) := insR_no (by rw [hok]; simp)
      have RW := R0
      have ZW := Z0
      clear hok okd hn
      obtain ⟨r1, r2, r3, r4⟩ := RW
      have z0 := ZW 0
      have z1 := ZW 1
      have z2 := ZW 2
      have z3 := ZW 3
      go_wp2
      refine bodyPost_ret (v := .tuple #[.agg #[.int .i64 0, .int .i64 0, .int .i64 0, .slice none 0 0], .bool false]) (by simp [results, Try.results12, go_sem, *]) rfl ?_
      rw [hres.out]
      exact ownFB_no _ rfl (((((B0).setCell (by simp; omega) _).setCell (by simp; omega) _).setCell (by simp; omega) _).setCell (by simp; omega) _)
    | true =>
      go_wp2_with fail
      go_at_call 28
      refine (netsIn own ad len cap f x1 hv0 hm).mono ?_
      rintro e x2 ⟨rfl, k2⟩
      have s2 := k2.size
      go_wp2_with fail
      go_at_call 29
      refine (hasN _ _ _ _ own x2).mono ?_
      rintro e x3 ⟨rfl, k3⟩
      have s3 := k3.size
      rw [hasB_in, mOk_has]
      have k13 := k2.trans (k3.mono s2)
      have B3 := B0.trans (k13.mono (by omega))
      have F3 := F0.below k13 (by omega)
      have RW := R0.below k13 (by omega)
      have ZW := fz_below Z0 k13 (by omega)
      have hvL3 : View x3 adL L.length (fun i => L.getD i 0) := hvL0.carry (fun x h hp => k13.block _ (hvL0.lt x h hp))
      cases hmo : (mOk own f len && hasIn f len own) with
      | false =>
        have hres : Hid (insR own f len a b 0 L = FR.no) := insR_no (by rw [hn]; intro h; rw [h.2.1, h.2.2] at hmo; cases hmo)
        clear hmo hok okd hn F3 C1 C2
        obtain ⟨r1, r2, r3, r4⟩ := RW
        have z0 := ZW 0
        have z1 := ZW 1
        have z2 := ZW 2
        have z3 := ZW 3
        go_wp2
        refine bodyPost_ret (v := .tuple #[.agg #[.int .i64 0, .int .i64 0, .int .i64 0, .slice none 0 0], .bool false]) (by simp [results, Try.results12, go_sem, *]) rfl ?_
        rw [hres.out]
        exact ownFB_no _ rfl (((((B3).setCell (by simp; omega) _).setCell (by simp; omega) _).setCell (by simp; omega) _).setCell (by simp; omega) _)
      | true =>
        have hres : Hid (insR own f len a b 0 L = ⟨a, b, own, L, true⟩) := by
          have := insR_yes (own := own) (f := f) (n := len) (a := a) (b := b) (c := 0) (L := L) ⟨hok, by rw [hn]; simpa [Bool.and_eq_true] using hmo⟩
          rw [hn] at this; exact this
        clear hmo hok okd hn C1 C2
        go_wp2_with fail
        go_at_call 30
        refine (frameInNet (w.heap.size + 1) a b 0 own adL capL L x3 F3 hvL3 hmL).mono ?_
        rintro e x4 ⟨ad4, cap4, rfl, o4, k4⟩
        have s4 := k4.size
        have B4 := B3.trans (k4.mono (by omega))
        obtain ⟨r1, r2, r3, r4⟩ := RW.below k4 (by omega)
        have Z4 := fz_below ZW k4 (by omega)
        have z0 := Z4 0
        have z1 := Z4 1
        have z2 := Z4 2
        have z3 := Z4 3
        clear F3 RW ZW
        go_wp2
        refine bodyPost_ret (v := .tuple #[.agg #[.int .i64 a, .int .i64 b, .int .i64 own, .slice ad4 L.length cap4], .bool true]) (by simp [results, Try.results12, go_sem, *]) rfl ?_
        rw [hres.out]
        refine ⟨ad4, cap4, rfl, own_base (own_keep o4 (fun g hg => ?_)) (by omega : w.heap.size ≤ x3.heap.size), ((((B4).setCell (by simp; omega) _).setCell (by simp; omega) _).setCell (by simp; omega) _).setCell (by simp; omega) _⟩
        rw [Below.heap_setCell _ _ _ _ (by show g ≠ w.heap.size + 1 + 1; omega), Below.heap_setCell _ _ _ _ (by show g ≠ w.heap.size + 1 + 1; omega), Below.heap_setCell _ _ _ _ (by show g ≠ w.heap.size + 1 + 1; omega), Below.heap_setCell _ _ _ _ (by show g ≠ w.heap.size + 1 + 1; omega)]
  · have hd : decide (c = 0) = false := decide_eq_false hc
    have hn : netOf own c = c := if_neg hc
    have okd := fits (w.heap.size + 1) a b c adL L.length capL x0 hmL' F0
    obtain ⟨C1, C2⟩ := M0
    go_enter Try.func12, Try.ntmps12
    go_wp2_with fail
    go_at_call 27
    rw [← hx]
    clear hx
    refine okd.mono ?_
    rintro e x1 ⟨rfl, rfl⟩
    cases hok : okF a b c L.length with
    | false =>
      have hres : Hid (insR own f len a b c L = FR.no) := insR_no (by rw [hok]; simp)
      have RW := R0
      have ZW := Z0
      clear hok okd hn
      obtain ⟨r1, r2, r3, r4⟩ := RW
      have z0 := ZW 0
      have z1 := ZW 1
      have z2 := ZW 2
      have z3 := ZW 3
      go_wp2
      refine bodyPost_ret (v := .tuple #[.agg #[.int .i64 0, .int .i64 0, .int .i64 0, .slice none 0 0], .bool false]) (by simp [results, Try.results12, go_sem, *]) rfl ?_
      rw [hres.out]
      exact ownFB_no _ rfl (((((B0).setCell (by simp; omega) _).setCell (by simp; omega) _).setCell (by simp; omega) _).setCell (by simp; omega) _)
    | true =>
      go_wp2_with fail
      go_at_call 28
      refine (netsIn own ad len cap f x1 hv0 hm).mono ?_
      rintro e x2 ⟨rfl, k2⟩
      have s2 := k2.size
      go_wp2_with fail
      go_at_call 29
      refine (hasN _ _ _ _ c x2).mono ?_
      rintro e x3 ⟨rfl, k3⟩
      have s3 := k3.size
      rw [hasB_in, mOk_has]
      have k13 := k2.trans (k3.mono s2)
      have B3 := B0.trans (k13.mono (by omega))
      have F3 := F0.below k13 (by omega)
      have RW := R0.below k13 (by omega)
      have ZW := fz_below Z0 k13 (by omega)
      have hvL3 : View x3 adL L.length (fun i => L.getD i 0) := hvL0.carry (fun x h hp => k13.block _ (hvL0.lt x h hp))
      cases hmo : (mOk own f len && hasIn f len c) with
      | false =>
        have hres : Hid (insR own f len a b c L = FR.no) := insR_no (by rw [hn]; intro h; rw [h.2.1, h.2.2] at hmo; cases hmo)
        clear hmo hok okd hn F3 C1 C2
        obtain ⟨r1, r2, r3, r4⟩ := RW
        have z0 := ZW 0
        have z1 := ZW 1
        have z2 := ZW 2
        have z3 := ZW 3
        go_wp2
        refine bodyPost_ret (v := .tuple #[.agg #[.int .i64 0, .int .i64 0, .int .i64 0, .slice none 0 0], .bool false]) (by simp [results, Try.results12, go_sem, *]) rfl ?_
        rw [hres.out]
        exact ownFB_no _ rfl (((((B3).setCell (by simp; omega) _).setCell (by simp; omega) _).setCell (by simp; omega) _).setCell (by simp; omega) _)
      | true =>
        have hres : Hid (insR own f len a b c L = ⟨a, b, c, L, true⟩) := by
          have := insR_yes (own := own) (f := f) (n := len) (a := a) (b := b) (c := c) (L := L) ⟨hok, by rw [hn]; simpa [Bool.and_eq_true] using hmo⟩
          rw [hn] at this; exact this
        clear hmo hok okd hn C1 C2
        go_wp2_with fail
        go_at_call 30
        refine (frameInNet (w.heap.size + 1) a b c c adL capL L x3 F3 hvL3 hmL).mono ?_
        rintro e x4 ⟨ad4, cap4, rfl, o4, k4⟩
        have s4 := k4.size
        have B4 := B3.trans (k4.mono (by omega))
        obtain ⟨r1, r2, r3, r4⟩ := RW.below k4 (by omega)
        have Z4 := fz_below ZW k4 (by omega)
        have z0 := Z4 0
        have z1 := Z4 1
        have z2 := Z4 2
        have z3 := Z4 3
        clear F3 RW ZW
        go_wp2
        refine bodyPost_ret (v := .tuple #[.agg #[.int .i64 a, .int .i64 b, .int .i64 c, .slice ad4 L.length cap4], .bool true]) (by simp [results, Try.results12, go_sem, *]) rfl ?_
        rw [hres.out]
        refine ⟨ad4, cap4, rfl, own_base (own_keep o4 (fun g hg => ?_)) (by omega : w.heap.size ≤ x3.heap.size), ((((B4).setCell (by simp; omega) _).setCell (by simp; omega) _).setCell (by simp; omega) _).setCell (by simp; omega) _⟩
        rw [Below.heap_setCell _ _ _ _ (by show g ≠ w.heap.size + 1 + 1; omega), Below.heap_setCell _ _ _ _ (by show g ≠ w.heap.size + 1 + 1; omega), Below.heap_setCell _ _ _ _ (by show g ≠ w.heap.size + 1 + 1; omega), Below.heap_setCell _ _ _ _ (by show g ≠ w.heap.size + 1 + 1; omega)]

end Go.Proofs.Ytmeofihjimgldaa
