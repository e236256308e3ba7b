/- What Gate answers. impl.Inside, walked. What Hear answers of a table, in plain lists. Lists of what goes out, each with its load; marks upon them. -/
import Derived.Test.YtifndemkkaelaaaGreatRows
import Derived.WalkKit
import Derived.ProofKit
import Derived.OpenShut
import Derived.ShutString
import Derived.ChangeOld
import Derived.Below
import Derived.Deep.QuietTactic
import Derived.BigQuiet
import Derived.WalkSmall
import Derived.Laws.OwnMore
import Derived.WalkSpells
import Derived.WalkLawsBesides
import Derived.Laws.AppendOwnNone
import Derived.Laws.CopyOwn
import Derived.Test.YtifndemkkaelaaaGreatZl13
import Derived.Test.YtifndemkkaelaaaGreatZlCard3
import Derived.Test.YtifndemkkaelaaaGreatZl11
import Derived.Test.YtifndemkkaelaaaGreatZl4
import Derived.Test.YtifndemkkaelaaaGreatZlNets4
import Derived.Test.YtifndemkkaelaaaGreatZl1
import Derived.Test.YtifndemkkaelaaaGreatZl5
namespace Go.Proofs.YtifndemkkaelaaaGreat
open Go.ChangeShapes Go.WideShapes Go.ChangeAt Go.RowKit
open Go.ChangeMaps (open_string shut_string)
set_option linter.unusedVariables false
set_option maxRecDepth 100000

theorem wf_bounds {n : Int} (h : (Lit.int .i64 n).wf = true) : -9223372036854775808 ≤ n ∧ n ≤ 9223372036854775807 := by
  have := bounds_i64 h
  exact this
theorem wrap_i64' {n : Int} (h0 : -9223372036854775808 ≤ n) (h1 : n ≤ 9223372036854775807) : IntKind.i64.wrap n = n := by
  rw [IntKind.wrap_i64]; omega
theorem CdW.wide {w : World} {lo hi lo' hi' : Nat} {adO : Option Addr} {O : List Bool} {adM : Option Addr} {D : DL} {adT : Option Addr} {T : List Hd} (h : CdW w lo hi adO O adM D adT T) (h1 : lo' ≤ lo) (h2 : hi ≤ hi') : CdW w lo' hi' adO O adM D adT T := by
  obtain ⟨Ms, fp, e, m, f, a1, a2⟩ := h.vM
  exact ⟨h.vO, h.rO, fun x q p => by have := h.iO x q p; omega, ⟨Ms, fp, e, m, fun x hx => by have := f x hx; omega, a1, a2⟩, h.vT, h.rT, fun x q p => by have := h.iT x q p; omega, h.apart⟩
def gTurn (O : List Bool) (D : DL) (T : List Hd) (p : Int) (on : Bool) : Bool := cOk O D T && (decide (0 ≤ p ∧ p < (O.length : Int)) && (O.getD p.toNat false != on))
def gO (O : List Bool) (D : DL) (T : List Hd) (p : Int) (on : Bool) : List Bool := if gTurn O D T p on then O.set p.toNat on else O
def gT (O : List Bool) (D : DL) (T : List Hd) (p : Int) (on : Bool) : List Hd := if gTurn O D T p on then forgot p T else T
theorem gT_len (O : List Bool) (D : DL) (T : List Hd) (p : Int) (on : Bool) : (gT O D T p on).length ≤ T.length := by
  unfold gT; split
  · exact forgot_len p T
  · exact Nat.le_refl _
theorem OwnC.as {w w' : World} {O O' : List Bool} {D : DL} {T T' : List Hd} {e : Ending} (h : OwnC w O D T e w') (hO : O' = O) (hT : T' = T) : OwnC w O' D T' e w' := by rw [hO, hT]; exact h
theorem CdW.turn {w z : World} {lo hi hi' : Nat} {adO : Option Addr} {O : List Bool} {adM : Option Addr} {D : DL} {adT : Option Addr} {T : List Hd} {adT' : Option Addr} {T' : List Hd} {b off i : Nat} {on : Bool} (h : CdW w lo hi adO O adM D adT T) (e : adO = some ⟨b, off, none⟩) (hi0 : i < O.length) (hh : hi ≤ hi')
    (z1 : ∀ j, lo ≤ j → j < hi → j ≠ b → z.heap[j]? = w.heap[j]?) (z2 : z.heap[b]? = (w.setCell ⟨b, off + i, none⟩ (.bool on)).heap[b]?) (vT : HView z adT' T') (rT : HRoom z adT' T'.length) (iT : ∀ x, adT' = some x → hi ≤ x.block ∧ x.block < hi') : CdW z lo hi' adO (O.set i on) adM D adT' T' := by
  obtain ⟨Ms, fp, eM, m, f, a1, _⟩ := h.vM
  subst e
  have hp : 0 < O.length := by omega
  have hb := h.iO ⟨b, off, none⟩ rfl hp
  have hb' : lo ≤ b ∧ b < hi := hb
  obtain ⟨b', off', eb, hc⟩ := h.vO hp
  cases eb
  obtain ⟨b', off', eb, hr⟩ := h.rO hp
  cases eb
  have nb : b ∉ fp := a1 ⟨b, off, none⟩ rfl hp
  have hl : (O.set i on).length = O.length := by simp
  refine ⟨fun _ => ⟨b, off, rfl, fun j hj => ?_⟩, fun _ => ⟨b, off, rfl, fun j hj => ?_⟩, fun x ex _ => by cases ex; exact ⟨hb'.1, by show b < hi'; omega⟩, ⟨Ms, fp, eM, m.keep (fun x hx => z1 x (f x hx).1 (f x hx).2 (fun q => nb (q ▸ hx))), fun x hx => ⟨(f x hx).1, by have := (f x hx).2; omega⟩, fun x ex _ => by cases ex; exact nb, fun x ex _ hx => by have := f _ hx; have := iT x ex; omega⟩, vT, rT, fun x ex _ => by have := iT x ex; omega, fun x y ex ey _ _ => by cases ex; have := iT y ey; show b ≠ _; omega⟩
  · rw [hl] at hj
    rw [World.cell?_of_block (a := ⟨b, off + j, none⟩) z2]
    by_cases q : j = i
    · subst q
      rw [cell_set_same ⟨_, hc j hj⟩]
      simp [List.getD, hj]
    · rw [cell_set_ne (by omega), hc j hj]
      have q' : i ≠ j := fun c => q c.symm
      simp [List.getD, q']
  · rw [hl] at hj
    rw [World.cell?_of_block (a := ⟨b, off + j, none⟩) z2, World.frozen?_of_block (a := ⟨b, off + j, none⟩) z2]
    exact ⟨cell?_setCell_some (hr j hj).1.choose_spec, by simpa using (hr j hj).2⟩
theorem hasP (adO : Option Addr) (cO : Nat) (O : List Bool) (adM : Option Addr) (cM : Nat) (D : DL) (adT : Option Addr) (cT : Nat) (T : List Hd) (P : Nat) (p : Int) (w : World) (A : CdAt w P adO O.length cO adM D.length cM adT T.length cT) (hl : O.length ≤ 1048576) :
    Calls Tryz.prog 41 #[.pointer (some ⟨P, 0, none⟩), .int .i64 p] w fun e w' => e = .returned (.bool (decide (0 ≤ p ∧ p < (O.length : Int)))) ∧ w' = w := by
  obtain ⟨C1, C2, C3⟩ := A
  by_cases h1 : 0 ≤ p
  rotate_left
  · have d1 : decide (0 ≤ p) = false := decide_eq_false h1
    have d2 : decide (0 ≤ p ∧ p < (O.length : Int)) = false := decide_eq_false (fun q => h1 q.1)
    rw [d2]
    clear h1 d2
    go_enter Tryz.func41, Tryz.ntmps41
    go_wp2
    go_ret
    exact ⟨rfl, rfl⟩
  · have d1 : decide (0 ≤ p) = true := decide_eq_true h1
    have d2 : decide (0 ≤ p ∧ p < (O.length : Int)) = decide (p < (O.length : Int)) := by
      by_cases q : p < (O.length : Int)
      · rw [decide_eq_true q, decide_eq_true ⟨h1, q⟩]
      · rw [decide_eq_false q, decide_eq_false (fun r => q r.2)]
    rw [d2]
    clear h1 d2
    go_enter Tryz.func41, Tryz.ntmps41
    go_wp2
    go_ret
    exact ⟨rfl, rfl⟩

end Go.Proofs.YtifndemkkaelaaaGreat
namespace Go.Proofs.YtifndemkkaelaaaGreat
open Go.ChangeShapes Go.WideShapes Go.ChangeAt Go.RowKit
open Go.ChangeMaps (open_string shut_string)
set_option linter.unusedVariables false
set_option maxRecDepth 100000

theorem mOk_has (own : Int) (f : Nat → Int) (n : Nat) (k : Int) : (mOk own f n && (decide (1 ≤ k ∧ k ≤ 4) && hasIn f n k)) = (mOk own f n && hasIn f n k) := by
  cases h : mOk own f n
  · rfl
  cases hi : hasIn f n k
  · simp
  · have h' : (asc f n && (decide (1 ≤ own ∧ own ≤ 4) && hasIn f n own)) = true := h
    simp only [Bool.and_eq_true] at h'
    obtain ⟨i, hi', e⟩ := (hasIn_iff f k n).1 hi
    have := asc_in h'.1 i hi'
    rw [e] at this
    rw [decide_eq_true this]; rfl
def netOf (own c : Int) : Int := if c = 0 then own else c
def insR (own : Int) (f : Nat → Int) (n : Nat) (a b c : Int) (L : List Int) : FR :=
  if okF a b c L.length = true ∧ mOk own f n = true ∧ hasIn f n (netOf own c) = true then ⟨a, b, netOf own c, L, true⟩ else FR.no
def outR (own : Int) (f : Nat → Int) (n : Nat) (a b c : Int) (L : List Int) : FR :=
  if okF a b c L.length = true ∧ mOk own f n = true ∧ hasIn f n c = true then ⟨a, b, if c = own then 0 else c, L, true⟩ else FR.no
theorem insR_no {own : Int} {f : Nat → Int} {n : Nat} {a b c : Int} {L : List Int} (h : ¬ (okF a b c L.length = true ∧ mOk own f n = true ∧ hasIn f n (netOf own c) = true)) : insR own f n a b c L = FR.no := if_neg h
theorem insR_yes {own : Int} {f : Nat → Int} {n : Nat} {a b c : Int} {L : List Int} (h : okF a b c L.length = true ∧ mOk own f n = true ∧ hasIn f n (netOf own c) = true) : insR own f n a b c L = ⟨a, b, netOf own c, L, true⟩ := if_pos h
theorem outR_no {own : Int} {f : Nat → Int} {n : Nat} {a b c : Int} {L : List Int} (h : ¬ (okF a b c L.length = true ∧ mOk own f n = true ∧ hasIn f n c = true)) : outR own f n a b c L = FR.no := if_neg h
theorem outR_yes {own : Int} {f : Nat → Int} {n : Nat} {a b c : Int} {L : List Int} (h : okF a b c L.length = true ∧ mOk own f n = true ∧ hasIn f n c = true) : outR own f n a b c L = ⟨a, b, if c = own then 0 else c, L, true⟩ := if_pos h
theorem ownFB_no {w w' : World} (e : Ending) (he : e = .returned (.tuple #[.agg #[.int .i64 0, .int .i64 0, .int .i64 0, .slice none 0 0], .bool false])) (k : Below w.heap.size w w') : OwnFB w FR.no e w' :=
  ⟨none, 0, he, World.ownsRow_nil _ _ _ _, k⟩
set_option maxHeartbeats 2000000 in
theorem insideI (own : Int) (ad : Option Addr) (len cap : Nat) (f : Nat → Int) (a b c : Int) (adL : Option Addr) (capL : Nat) (L : List Int) (w : World) (hv : ViewI w ad len f) (hm : len ≤ maxLen) (hvL : View w adL L.length (fun i => L.getD i 0)) (hmL : L.length ≤ 1048576) :
    Calls Tryz.prog 19 #[.agg #[.int .i64 own, .slice ad len cap], .agg #[.int .i64 a, .int .i64 b, .int .i64 c, .slice adL L.length capL]] w fun e w' => OwnFB w (insR own f len a b c L) e w' := by
  have hmL' : L.length ≤ maxLen := by unfold maxLen; omega
  obtain ⟨x0, hx⟩ : ∃ x, x = ((w.alloc (Obj.cells #[.int .i64 own, .slice ad len cap] 50)).alloc (Obj.cells #[.int .i64 a, .int .i64 b, .int .i64 c, .slice adL L.length capL] 30)).alloc (Obj.cells #[.int .i64 0, .int .i64 0, .int .i64 0, .slice none 0 0] 30) := ⟨_, rfl⟩
  have B0 : Below w.heap.size w x0 := by rw [hx]; exact (((Below.refl _ _).alloc (Nat.le_refl _) _).alloc (by simp) _).alloc (by simp; omega) _
  have T0 : w.heap.size + 1 + 1 < x0.heap.size := by rw [hx]; simp
  have M0 : MemAt x0 w.heap.size own ad len cap := by rw [hx]; refine ⟨?_, ?_⟩ <;> simp [go_sem]
  have F0 : FrameAt x0 (w.heap.size + 1) a b c adL L.length capL := by rw [hx]; refine ⟨?_, ?_, ?_, ?_⟩ <;> simp [go_sem]
  have R0 : FrameAt x0 (w.heap.size + 1 + 1) 0 0 0 none 0 0 := by rw [hx]; refine ⟨?_, ?_, ?_, ?_⟩ <;> simp [go_sem]
  have Z0 : ∀ i, x0.frozen? ⟨w.heap.size + 1 + 1, i, none⟩ = false := by intro i; rw [hx]; simp [go_sem]
  have hv0 := hv.below B0 (Nat.le_refl _)
  have hvL0 : View x0 adL L.length (fun i => L.getD i 0) := hvL.carry (fun x h hp => B0.block _ (hvL.lt x h hp))
  by_cases hc : c = 0
  · subst hc
    have hn : netOf own 0 = own := rfl
    have okd := fits (w.heap.size + 1) a b 0 adL L.length capL x0 hmL' F0
    obtain ⟨C1, C2⟩ := M0
    go_enter Tryz.func19, Tryz.ntmps19
    go_wp2_with fail
    go_at_call 58
    rw [← hx]
    clear hx
    refine okd.mono ?_
    rintro e x1 ⟨rfl, rfl⟩
    cases hok : okF a b 0 L.length with
    | false =>
      have hres : Hid (insR own f len a b 0 L = FR.no) := insR_no (by rw [hok]; simp)
      have RW := R0
      have ZW := Z0
      clear hok okd hn
      obtain ⟨r1, r2, r3, r4⟩ := RW
      have z0 := ZW 0
      have z1 := ZW 1
      have z2 := ZW 2
      have z3 := ZW 3
      go_wp2
      refine bodyPost_ret (v := .tuple #[.agg #[.int .i64 0, .int .i64 0, .int .i64 0, .slice none 0 0], .bool false]) (by simp [results, Tryz.results19, go_sem, *]) rfl ?_
      rw [hres.out]
      exact ownFB_no _ rfl (((((B0).setCell (by simp; omega) _).setCell (by simp; omega) _).setCell (by simp; omega) _).setCell (by simp; omega) _)
    | true =>
      go_wp2_with fail
      go_at_call 59
      refine (netsIn own ad len cap f x1 hv0 hm).mono ?_
      rintro e x2 ⟨rfl, k2⟩
      have s2 := k2.size
      go_wp2_with fail
      go_at_call 60
      refine (hasN _ _ _ _ own x2).mono ?_
      rintro e x3 ⟨rfl, k3⟩
      have s3 := k3.size
      rw [hasB_in, mOk_has]
      have k13 := k2.trans (k3.mono s2)
      have B3 := B0.trans (k13.mono (by omega))
      have F3 := F0.below k13 (by omega)
      have RW := R0.below k13 (by omega)
      have ZW := fz_below Z0 k13 (by omega)
      have hvL3 : View x3 adL L.length (fun i => L.getD i 0) := hvL0.carry (fun x h hp => k13.block _ (hvL0.lt x h hp))
      cases hmo : (mOk own f len && hasIn f len own) with
      | false =>
        have hres : Hid (insR own f len a b 0 L = FR.no) := insR_no (by rw [hn]; intro h; rw [h.2.1, h.2.2] at hmo; cases hmo)
        clear hmo hok okd hn F3 C1 C2
        obtain ⟨r1, r2, r3, r4⟩ := RW
        have z0 := ZW 0
        have z1 := ZW 1
        have z2 := ZW 2
        have z3 := ZW 3
        go_wp2
        refine bodyPost_ret (v := .tuple #[.agg #[.int .i64 0, .int .i64 0, .int .i64 0, .slice none 0 0], .bool false]) (by simp [results, Tryz.results19, go_sem, *]) rfl ?_
        rw [hres.out]
        exact ownFB_no _ rfl (((((B3).setCell (by simp; omega) _).setCell (by simp; omega) _).setCell (by simp; omega) _).setCell (by simp; omega) _)
      | true =>
        have hres : Hid (insR own f len a b 0 L = ⟨a, b, own, L, true⟩) := by
          have := insR_yes (own := own) (f := f) (n := len) (a := a) (b := b) (c := 0) (L := L) ⟨hok, by rw [hn]; simpa [Bool.and_eq_true] using hmo⟩
          rw [hn] at this; exact this
        clear hmo hok okd hn C1 C2
        go_wp2_with fail
        go_at_call 61
        refine (frameInNet (w.heap.size + 1) a b 0 own adL capL L x3 F3 hvL3 hmL).mono ?_
        rintro e x4 ⟨ad4, cap4, rfl, o4, k4⟩
        have s4 := k4.size
        have B4 := B3.trans (k4.mono (by omega))
        obtain ⟨r1, r2, r3, r4⟩ := RW.below k4 (by omega)
        have Z4 := fz_below ZW k4 (by omega)
        have z0 := Z4 0
        have z1 := Z4 1
        have z2 := Z4 2
        have z3 := Z4 3
        clear F3 RW ZW
        go_wp2
        refine bodyPost_ret (v := .tuple #[.agg #[.int .i64 a, .int .i64 b, .int .i64 own, .slice ad4 L.length cap4], .bool true]) (by simp [results, Tryz.results19, go_sem, *]) rfl ?_
        rw [hres.out]
        refine ⟨ad4, cap4, rfl, own_base (own_keep o4 (fun g hg => ?_)) (by omega : w.heap.size ≤ x3.heap.size), ((((B4).setCell (by simp; omega) _).setCell (by simp; omega) _).setCell (by simp; omega) _).setCell (by simp; omega) _⟩
        rw [Below.heap_setCell _ _ _ _ (by show g ≠ w.heap.size + 1 + 1; omega), Below.heap_setCell _ _ _ _ (by show g ≠ w.heap.size + 1 + 1; omega), Below.heap_setCell _ _ _ _ (by show g ≠ w.heap.size + 1 + 1; omega), Below.heap_setCell _ _ _ _ (by show g ≠ w.heap.size + 1 + 1; omega)]
  · have hd : decide (c = 0) = false := decide_eq_false hc
    have hn : netOf own c = c := if_neg hc
    have okd := fits (w.heap.size + 1) a b c adL L.length capL x0 hmL' F0
    obtain ⟨C1, C2⟩ := M0
    go_enter Tryz.func19, Tryz.ntmps19
    go_wp2_with fail
    go_at_call 58
    rw [← hx]
    clear hx
    refine okd.mono ?_
    rintro e x1 ⟨rfl, rfl⟩
    cases hok : okF a b c L.length with
    | false =>
      have hres : Hid (insR own f len a b c L = FR.no) := insR_no (by rw [hok]; simp)
      have RW := R0
      have ZW := Z0
      clear hok okd hn
      obtain ⟨r1, r2, r3, r4⟩ := RW
      have z0 := ZW 0
      have z1 := ZW 1
      have z2 := ZW 2
      have z3 := ZW 3
      go_wp2
      refine bodyPost_ret (v := .tuple #[.agg #[.int .i64 0, .int .i64 0, .int .i64 0, .slice none 0 0], .bool false]) (by simp [results, Tryz.results19, go_sem, *]) rfl ?_
      rw [hres.out]
      exact ownFB_no _ rfl (((((B0).setCell (by simp; omega) _).setCell (by simp; omega) _).setCell (by simp; omega) _).setCell (by simp; omega) _)
    | true =>
      go_wp2_with fail
      go_at_call 59
      refine (netsIn own ad len cap f x1 hv0 hm).mono ?_
      rintro e x2 ⟨rfl, k2⟩
      have s2 := k2.size
      go_wp2_with fail
      go_at_call 60
      refine (hasN _ _ _ _ c x2).mono ?_
      rintro e x3 ⟨rfl, k3⟩
      have s3 := k3.size
      rw [hasB_in, mOk_has]
      have k13 := k2.trans (k3.mono s2)
      have B3 := B0.trans (k13.mono (by omega))
      have F3 := F0.below k13 (by omega)
      have RW := R0.below k13 (by omega)
      have ZW := fz_below Z0 k13 (by omega)
      have hvL3 : View x3 adL L.length (fun i => L.getD i 0) := hvL0.carry (fun x h hp => k13.block _ (hvL0.lt x h hp))
      cases hmo : (mOk own f len && hasIn f len c) with
      | false =>
        have hres : Hid (insR own f len a b c L = FR.no) := insR_no (by rw [hn]; intro h; rw [h.2.1, h.2.2] at hmo; cases hmo)
        clear hmo hok okd hn F3 C1 C2
        obtain ⟨r1, r2, r3, r4⟩ := RW
        have z0 := ZW 0
        have z1 := ZW 1
        have z2 := ZW 2
        have z3 := ZW 3
        go_wp2
        refine bodyPost_ret (v := .tuple #[.agg #[.int .i64 0, .int .i64 0, .int .i64 0, .slice none 0 0], .bool false]) (by simp [results, Tryz.results19, go_sem, *]) rfl ?_
        rw [hres.out]
        exact ownFB_no _ rfl (((((B3).setCell (by simp; omega) _).setCell (by simp; omega) _).setCell (by simp; omega) _).setCell (by simp; omega) _)
      | true =>
        have hres : Hid (insR own f len a b c L = ⟨a, b, c, L, true⟩) := by
          have := insR_yes (own := own) (f := f) (n := len) (a := a) (b := b) (c := c) (L := L) ⟨hok, by rw [hn]; simpa [Bool.and_eq_true] using hmo⟩
          rw [hn] at this; exact this
        clear hmo hok okd hn C1 C2
        go_wp2_with fail
        go_at_call 61
        refine (frameInNet (w.heap.size + 1) a b c c adL capL L x3 F3 hvL3 hmL).mono ?_
        rintro e x4 ⟨ad4, cap4, rfl, o4, k4⟩
        have s4 := k4.size
        have B4 := B3.trans (k4.mono (by omega))
        obtain ⟨r1, r2, r3, r4⟩ := RW.below k4 (by omega)
        have Z4 := fz_below ZW k4 (by omega)
        have z0 := Z4 0
        have z1 := Z4 1
        have z2 := Z4 2
        have z3 := Z4 3
        clear F3 RW ZW
        go_wp2
        refine bodyPost_ret (v := .tuple #[.agg #[.int .i64 a, .int .i64 b, .int .i64 c, .slice ad4 L.length cap4], .bool true]) (by simp [results, Tryz.results19, go_sem, *]) rfl ?_
        rw [hres.out]
        refine ⟨ad4, cap4, rfl, own_base (own_keep o4 (fun g hg => ?_)) (by omega : w.heap.size ≤ x3.heap.size), ((((B4).setCell (by simp; omega) _).setCell (by simp; omega) _).setCell (by simp; omega) _).setCell (by simp; omega) _⟩
        rw [Below.heap_setCell _ _ _ _ (by show g ≠ w.heap.size + 1 + 1; omega), Below.heap_setCell _ _ _ _ (by show g ≠ w.heap.size + 1 + 1; omega), Below.heap_setCell _ _ _ _ (by show g ≠ w.heap.size + 1 + 1; omega), Below.heap_setCell _ _ _ _ (by show g ≠ w.heap.size + 1 + 1; omega)]

end Go.Proofs.YtifndemkkaelaaaGreat
namespace Go.Proofs.YtifndemkkaelaaaGreat
open Go.ChangeShapes Go.WideShapes Go.ChangeAt Go.RowKit
open Go.ChangeMaps (open_string shut_string)
set_option linter.unusedVariables false
set_option maxRecDepth 100000

def Hd.same (x y : Hd) : Bool := decide (x.a = y.a ∧ x.v = y.v)
def insS (x : Hd) : Bool → List Hd → List Hd
  | put, [] => if put then [] else [x]
  | put, h :: t => (if !put && !(h.bef x) then [x] else []) ++ ((if h.same x then [] else [h]) ++ insS x (put || !(h.bef x)) t)
def hearR (L : List Hd) (x : Hd) : List Hd := if tokB (insS x false L) = true then insS x false L else L
def Str (L : List Hd) : Prop := L.Pairwise (fun x y => x.bef y = true)
theorem bef_irr (x : Hd) : x.bef x = false := by unfold Hd.bef; simp
theorem bef_tr {x y z : Hd} (h1 : x.bef y = true) (h2 : y.bef z = true) : x.bef z = true := by
  unfold Hd.bef at *
  simp only [decide_eq_true_eq] at *
  omega
theorem bef_as {x y : Hd} (h1 : x.bef y = true) : y.bef x = false := by
  unfold Hd.bef at *
  simp only [decide_eq_true_eq, decide_eq_false_iff_not] at *
  omega
theorem bef_tot {x y : Hd} (h1 : x.bef y = false) (h2 : x.same y = false) : y.bef x = true := by
  unfold Hd.bef Hd.same at *
  simp only [decide_eq_true_eq, decide_eq_false_iff_not] at *
  omega
theorem bef_same {x y z : Hd} (h : x.same y = true) : x.bef z = y.bef z ∧ z.bef x = z.bef y := by
  unfold Hd.same at h
  simp only [decide_eq_true_eq] at h
  unfold Hd.bef
  rw [h.1, h.2]
  exact ⟨rfl, rfl⟩
theorem same_bef {x y : Hd} (h : x.same y = true) : x.bef y = false := by rw [(bef_same h).1]; exact bef_irr y
theorem insS_put (x : Hd) : ∀ L : List Hd, insS x true L = L.filter (fun h => !(h.same x))
  | [] => rfl
  | h :: t => by
    show (if (!true && !(h.bef x)) = true then [x] else []) ++ ((if h.same x = true then [] else [h]) ++ insS x (true || !(h.bef x)) t) = _
    simp only [Bool.not_true, Bool.false_and, Bool.true_or, Bool.false_eq_true, if_false, List.nil_append]
    rw [insS_put x t, List.filter_cons]
    cases h.same x <;> simp
theorem insS_perm (x : Hd) : ∀ L : List Hd, (insS x false L).Perm (L.filter (fun h => !(h.same x)) ++ [x])
  | [] => List.Perm.refl _
  | h :: t => by
    show ((if (!false && !(h.bef x)) = true then [x] else []) ++ ((if h.same x = true then [] else [h]) ++ insS x (false || !(h.bef x)) t)).Perm _
    cases hb : h.bef x
    · simp only [Bool.not_false, Bool.true_and, if_true, Bool.false_or]
      rw [insS_put]
      have e : (if h.same x = true then [] else [h]) ++ t.filter (fun h => !(h.same x)) = (h :: t).filter (fun h => !(h.same x)) := by
        rw [List.filter_cons]; cases h.same x <;> simp
      rw [e]
      exact List.perm_append_comm
    · have hs : h.same x = false := by
        cases q : h.same x
        · rfl
        · rw [same_bef q] at hb; cases hb
      simp only [Bool.not_true, Bool.and_false, Bool.false_eq_true, if_false, Bool.or_false, List.nil_append, hs]
      rw [List.filter_cons]
      simp only [hs, Bool.not_false, if_true]
      exact (insS_perm x t).cons h
theorem str_filter {L : List Hd} (p : Hd → Bool) (h : Str L) : Str (L.filter p) := List.Pairwise.filter p h
theorem insS_mem {x y : Hd} {L : List Hd} (h : y ∈ insS x false L) : y = x ∨ y ∈ L := by
  have := (insS_perm x L).mem_iff.1 h
  simp only [List.mem_append, List.mem_filter, List.mem_singleton] at this
  rcases this with h | h
  · exact .inr h.1
  · exact .inl h
theorem insS_str (x : Hd) : ∀ {L : List Hd}, Str L → Str (insS x false L)
  | [], _ => by show Str [x]; exact List.pairwise_singleton _ _
  | h :: t, hs => by
    have hs' : (∀ y ∈ t, h.bef y = true) ∧ Str t := List.pairwise_cons.1 hs
    show Str ((if (!false && !(h.bef x)) = true then [x] else []) ++ ((if h.same x = true then [] else [h]) ++ insS x (false || !(h.bef x)) t))
    cases hb : h.bef x
    · simp only [Bool.not_false, Bool.true_and, if_true, Bool.false_or]
      rw [insS_put]
      have e : (if h.same x = true then [] else [h]) ++ t.filter (fun h => !(h.same x)) = (h :: t).filter (fun h => !(h.same x)) := by
        rw [List.filter_cons]; cases h.same x <;> simp
      rw [e]
      refine List.pairwise_cons.2 ⟨fun y hy => ?_, str_filter _ hs⟩
      obtain ⟨hm, hn⟩ := List.mem_filter.1 hy
      simp at hn
      rcases List.mem_cons.1 hm with rfl | hm
      · exact bef_tot hb hn
      · cases q : h.same x
        · exact bef_tr (bef_tot hb q) (hs'.1 y hm)
        · rw [← (bef_same q).1]; exact hs'.1 y hm
    · have hs0 : h.same x = false := by
        cases q : h.same x
        · rfl
        · rw [same_bef q] at hb; cases hb
      simp only [Bool.not_true, Bool.and_false, Bool.false_eq_true, if_false, Bool.or_false, List.nil_append, hs0]
      refine List.pairwise_cons.2 ⟨fun y hy => ?_, insS_str x hs'.2⟩
      rcases insS_mem hy with rfl | hm
      · exact hb
      · exact hs'.1 y hm
theorem str_eq : ∀ {A B : List Hd}, Str A → Str B → A.Perm B → A = B
  | [], B, _, _, hp => (List.nil_perm.1 hp).symm
  | a :: A, [], _, _, hp => by have := hp.length_eq; simp at this
  | a :: A, b :: B, hA, hB, hp => by
    have hA' := List.pairwise_cons.1 hA
    have hB' := List.pairwise_cons.1 hB
    have e : a = b := by
      have h1 : a ∈ b :: B := hp.mem_iff.1 (List.mem_cons_self)
      have h2 : b ∈ a :: A := hp.mem_iff.2 (List.mem_cons_self)
      rcases List.mem_cons.1 h1 with h1 | h1
      · exact h1
      · rcases List.mem_cons.1 h2 with h2 | h2
        · exact h2.symm
        · have k1 := hB'.1 a h1
          have k2 := hA'.1 b h2
          rw [bef_as k1] at k2
          cases k2
    subst e
    rw [str_eq hA'.2 hB'.2 (List.Perm.cons_inv hp)]
theorem str_of_weak : ∀ {N : List Hd}, N.Pairwise (fun x y => y.bef x = false) → N.Pairwise (fun x y => x.same y = false) → Str N := by
  intro N h1 h2
  refine List.Pairwise.imp₂ (R := fun x y => y.bef x = false) (S := fun x y => x.same y = false) ?_ h1 h2
  intro x y a b
  have b' : y.same x = false := by
    unfold Hd.same at *
    simp only [decide_eq_false_iff_not] at *
    omega
  exact bef_tot a b'
theorem sorted_insS {x : Hd} {L N : List Hd} (hL : Str L) (hp : (L.filter (fun h => !(h.same x)) ++ [x]).Perm N) (hw : N.Pairwise (fun x y => y.bef x = false)) : N = insS x false L := by
  have hd : (insS x false L).Pairwise (fun x y => x.same y = false) := by
    refine List.Pairwise.imp ?_ (insS_str x hL)
    intro a b hab
    cases q : a.same b
    · rfl
    · rw [same_bef q] at hab; cases hab
  have hd' : N.Pairwise (fun x y => x.same y = false) := by
    refine (((insS_perm x L).trans hp).pairwise_iff ?_).1 hd
    intro a b h
    unfold Hd.same at *
    simp only [decide_eq_false_iff_not] at *
    omega
  exact str_eq (str_of_weak hw hd') (insS_str x hL) (((insS_perm x L).trans hp).symm)
theorem str_of_tok {L : List Hd} (h : TOk L) : Str L := by
  obtain ⟨_, _, h3⟩ := h
  unfold Str
  rw [List.pairwise_iff_getElem]
  have key : ∀ j (hj : j < L.length) i, i < j → (L.getD i Hd.nil).bef (L.getD j Hd.nil) = true := by
    intro j
    induction j with
    | zero => intro _ i hi; omega
    | succ j ih =>
      intro hj i hi
      have hs := h3 (j + 1) hj (by omega)
      rw [Nat.add_sub_cancel] at hs
      by_cases e : i = j
      · subst e; exact hs
      · exact bef_tr (ih (by omega) i (by omega)) hs
  intro i j hi hj hij
  have := key j hj i hij
  simpa [List.getD, hi, hj] using this

end Go.Proofs.YtifndemkkaelaaaGreat
namespace Go.Proofs.YtifndemkkaelaaaGreat
open Go.ChangeShapes Go.WideShapes Go.ChangeAt Go.RowKit
open Go.ChangeMaps (open_string shut_string)
set_option linter.unusedVariables false
set_option maxRecDepth 100000

structure Ob where
  p : Int
  a : Int
  b : Int
  c : Int
  ad : Option Addr
  cap : Nat
  L : List Int
def Ob.nil : Ob := ⟨0, 0, 0, 0, none, 0, []⟩
def Ob.d (m : Ob) : Int × Int × Int × Int × List Int := (m.p, m.a, m.b, m.c, m.L)
def ObAt (w : World) (b q : Nat) (m : Ob) : Prop :=
  w.cell? ⟨b, q, none⟩ = some (.int .i64 m.p) ∧ w.cell? ⟨b, q + 1, none⟩ = some (.int .i64 m.a) ∧ w.cell? ⟨b, q + 2, none⟩ = some (.int .i64 m.b) ∧ w.cell? ⟨b, q + 3, none⟩ = some (.int .i64 m.c) ∧ w.cell? ⟨b, q + 4, none⟩ = some (.slice m.ad m.L.length m.cap)
theorem ObAt.same {w w' : World} {b q : Nat} {m : Ob} (h : ObAt w b q m) (e : w'.heap[b]? = w.heap[b]?) : ObAt w' b q m :=
  ⟨(World.cell?_of_block (a := ⟨b, q, none⟩) e).trans h.1, (World.cell?_of_block (a := ⟨b, q + 1, none⟩) e).trans h.2.1, (World.cell?_of_block (a := ⟨b, q + 2, none⟩) e).trans h.2.2.1, (World.cell?_of_block (a := ⟨b, q + 3, none⟩) e).trans h.2.2.2.1, (World.cell?_of_block (a := ⟨b, q + 4, none⟩) e).trans h.2.2.2.2⟩
def ObL (w : World) (m : Ob) : Prop := View w m.ad m.L.length (fun i => m.L.getD i 0)
structure ObV (w : World) (ad : Option Addr) (Ms : List Ob) : Prop where
  row : 0 < Ms.length → ∃ b off, ad = some ⟨b, off, none⟩ ∧ ∀ i, i < Ms.length → ObAt w b (off + i * 5) (Ms.getD i Ob.nil)
  nest : ∀ i, i < Ms.length → ObL w (Ms.getD i Ob.nil)
  nil0 : ∀ i, i < Ms.length → (Ms.getD i Ob.nil).ad = none → (Ms.getD i Ob.nil).cap = 0
theorem ObV.carry {w w' : World} {ad : Option Addr} {Ms : List Ob} (h : ObV w ad Ms) (h1 : ∀ x, ad = some x → 0 < Ms.length → w'.heap[x.block]? = w.heap[x.block]?) (h2 : ∀ i, i < Ms.length → ∀ x, (Ms.getD i Ob.nil).ad = some x → 0 < (Ms.getD i Ob.nil).L.length → w'.heap[x.block]? = w.heap[x.block]?) : ObV w' ad Ms := by
  refine ⟨fun hp => ?_, fun i hi => View.carry (h.nest i hi) (fun x e hp => h2 i hi x e hp), h.nil0⟩
  obtain ⟨b, off, e, hc⟩ := h.row hp
  exact ⟨b, off, e, fun i hi => (hc i hi).same (h1 _ e hp)⟩
structure ObW (w : World) (ad : Option Addr) (Ms : List Ob) (fp : List Nat) : Prop where
  view : ObV w ad Ms
  room : Room w ad (Ms.length * 5)
  rooms : ∀ i, i < Ms.length → Room w (Ms.getD i Ob.nil).ad (Ms.getD i Ob.nil).L.length
  rowIn : ∀ x, ad = some x → 0 < Ms.length → x.block ∈ fp
  nestIn : ∀ i, i < Ms.length → ∀ x, (Ms.getD i Ob.nil).ad = some x → 0 < (Ms.getD i Ob.nil).L.length → x.block ∈ fp
  apart : ∀ i, i < Ms.length → ∀ x y, ad = some x → (Ms.getD i Ob.nil).ad = some y → 0 < (Ms.getD i Ob.nil).L.length → y.block ≠ x.block
  aparts : ∀ i j, i < j → j < Ms.length → ∀ x y, (Ms.getD i Ob.nil).ad = some x → (Ms.getD j Ob.nil).ad = some y → 0 < (Ms.getD i Ob.nil).L.length → 0 < (Ms.getD j Ob.nil).L.length → x.block ≠ y.block
end Go.Proofs.YtifndemkkaelaaaGreat
