/- What both Pass rest on. impl.Outside, walked. -/
import Derived.Test.YtifndemkkaelaaaGreatRows
import Derived.WalkKit
import Derived.ProofKit
import Derived.OpenShut
import Derived.ShutString
import Derived.ChangeOld
import Derived.Below
import Derived.Deep.QuietTactic
import Derived.BigQuiet
import Derived.WalkSmall
import Derived.Laws.OwnMore
import Derived.WalkSpells
import Derived.WalkLawsBesides
import Derived.Laws.AppendOwnNone
import Derived.Laws.CopyOwn
import Derived.Test.YtifndemkkaelaaaGreatZl16
import Derived.Test.YtifndemkkaelaaaGreatZlHear3
import Derived.Test.YtifndemkkaelaaaGreatZlCopy3
import Derived.Test.YtifndemkkaelaaaGreatZl6
import Derived.Test.YtifndemkkaelaaaGreatZl15
import Derived.Test.YtifndemkkaelaaaGreatZl1
namespace Go.Proofs.YtifndemkkaelaaaGreat
open Go.ChangeShapes Go.WideShapes Go.ChangeAt Go.RowKit
open Go.ChangeMaps (open_string shut_string)
set_option linter.unusedVariables false
set_option maxRecDepth 100000

theorem where_pos : ∀ (T : List Hd) (a v : Int), (∀ h ∈ T, 1 ≤ h.a) → (whereR T a v).2 = true → a ≠ 0
  | [], a, v, _, h => by simp [whereR] at h
  | h :: t, a, v, hf, hw => by
    unfold whereR at hw
    by_cases q : h.a = a ∧ h.v = v
    · have := hf h List.mem_cons_self
      omega
    · rw [if_neg q] at hw
      exact where_pos t a v (fun x hx => hf x (List.mem_cons_of_mem _ hx)) hw
theorem tok_one {T : List Hd} (h : TOk T) : ∀ x ∈ T, 1 ≤ x.a := fun x hx => by
  obtain ⟨i, hi, rfl⟩ := List.getElem_of_mem hx
  have := h.2.1 i hi
  simp only [List.getD, List.getElem?_eq_getElem hi, Option.getD_some, Hd.fits, decide_eq_true_eq] at this
  omega
theorem where_known {T : List Hd} (h : TOk T) (a v : Int) : ((whereR T a v).2 && (a != 0)) = (whereR T a v).2 := by
  cases hq : (whereR T a v).2 with
  | false => rfl
  | true => have := where_pos T a v (tok_one h) hq; simp [this]
theorem goes_other {O : List Bool} {D : DL} {p : Int} {x : FR} {only : Int} {k : Nat} (h : (k : Int) ≠ only) : goesAt O D p x true only k = [] := by
  unfold goesAt
  by_cases h1 : (k : Int) = p
  · rw [if_pos h1]
  · rw [if_neg h1]
    by_cases h2 : O.getD k false = false
    · rw [if_pos h2]
    · rw [if_neg h2, if_pos (by simp [h])]
theorem goes_before {O : List Bool} {D : DL} {p : Int} {x : FR} {only : Int} : ∀ {k : Nat}, (k : Int) ≤ only → goesTo O D p x true only k = []
  | 0, _ => rfl
  | k + 1, h => by
    rw [goesTo, goes_before (by omega), goes_other (by omega)]
    rfl
theorem goes_after {O : List Bool} {D : DL} {p : Int} {x : FR} {k : Nat} : ∀ (n : Nat), goesTo O D p x true (k : Int) (k + 1 + n) = goesAt O D p x true (k : Int) k
  | 0 => by
    show goesTo O D p x true (k : Int) k ++ _ = _
    rw [goes_before (Int.le_refl _)]
    rfl
  | n + 1 => by
    show goesTo O D p x true (k : Int) (k + 1 + n) ++ goesAt O D p x true (k : Int) (k + 1 + n) = _
    rw [goes_after n, goes_other (k := k + 1 + n) (by omega), List.append_nil]
theorem CdW.retab {w z : World} {lo hi hi' : Nat} {adO : Option Addr} {O : List Bool} {adM : Option Addr} {D : DL} {adT : Option Addr} {T : List Hd} {adT' : Option Addr} {T' : List Hd} (h : CdW w lo hi adO O adM D adT T) (hl : lo ≤ hi) (hh : hi ≤ hi')
    (z1 : ∀ j, lo ≤ j → j < hi → z.heap[j]? = w.heap[j]?) (vT : HView z adT' T') (rT : HRoom z adT' T'.length) (iT : ∀ x, adT' = some x → hi ≤ x.block ∧ x.block < hi') : CdW z lo hi' adO O adM D adT' T' := by
  have hz := h.keep z1
  obtain ⟨Ms, fp, eM, m, f, a1, _⟩ := hz.vM
  refine ⟨hz.vO, hz.rO, fun x q p => ?_, ⟨Ms, fp, eM, m, fun x hx => ?_, a1, fun x q _ hx => ?_⟩, vT, rT, fun x q _ => ?_, fun x y q r p _ => ?_⟩
  · have := hz.iO x q p; omega
  · have := f x hx; omega
  · have := f _ hx; have := iT x q; omega
  · have := iT x q; omega
  · have := hz.iO x q p; have := iT y r; omega

end Go.Proofs.YtifndemkkaelaaaGreat
namespace Go.Proofs.YtifndemkkaelaaaGreat
open Go.ChangeShapes Go.WideShapes Go.ChangeAt Go.RowKit
open Go.ChangeMaps (open_string shut_string)
set_option linter.unusedVariables false
set_option maxRecDepth 100000

set_option maxHeartbeats 2000000 in
theorem outsideI (own : Int) (ad : Option Addr) (len cap : Nat) (f : Nat → Int) (a b c : Int) (adL : Option Addr) (capL : Nat) (L : List Int) (w : World) (hv : ViewI w ad len f) (hm : len ≤ maxLen) (hvL : View w adL L.length (fun i => L.getD i 0)) (hmL : L.length ≤ 1048576) :
    Calls Tryz.prog 127 #[.agg #[.int .i64 own, .slice ad len cap], .agg #[.int .i64 a, .int .i64 b, .int .i64 c, .slice adL L.length capL]] w fun e w' => OwnFB w (outR own f len a b c L) e w' := by
  have hmL' : L.length ≤ maxLen := by unfold maxLen; omega
  obtain ⟨x0, hx⟩ : ∃ x, x = ((w.alloc (Obj.cells #[.int .i64 own, .slice ad len cap] 50)).alloc (Obj.cells #[.int .i64 a, .int .i64 b, .int .i64 c, .slice adL L.length capL] 30)).alloc (Obj.cells #[.int .i64 0, .int .i64 0, .int .i64 0, .slice none 0 0] 30) := ⟨_, rfl⟩
  have B0 : Below w.heap.size w x0 := by rw [hx]; exact (((Below.refl _ _).alloc (Nat.le_refl _) _).alloc (by simp) _).alloc (by simp; omega) _
  have T0 : w.heap.size + 1 + 1 < x0.heap.size := by rw [hx]; simp
  have M0 : MemAt x0 w.heap.size own ad len cap := by rw [hx]; refine ⟨?_, ?_⟩ <;> simp [go_sem]
  have F0 : FrameAt x0 (w.heap.size + 1) a b c adL L.length capL := by rw [hx]; refine ⟨?_, ?_, ?_, ?_⟩ <;> simp [go_sem]
  have R0 : FrameAt x0 (w.heap.size + 1 + 1) 0 0 0 none 0 0 := by rw [hx]; refine ⟨?_, ?_, ?_, ?_⟩ <;> simp [go_sem]
  have Z0 : ∀ i, x0.frozen? ⟨w.heap.size + 1 + 1, i, none⟩ = false := by intro i; rw [hx]; simp [go_sem]
  have hv0 := hv.below B0 (Nat.le_refl _)
  have hvL0 : View x0 adL L.length (fun i => L.getD i 0) := hvL.carry (fun x h hp => B0.block _ (hvL.lt x h hp))
  cases hok : okF a b c L.length with
  | false =>
    have hres : Hid (outR own f len a b c L = FR.no) := outR_no (by rw [hok]; simp)
    go_enter Tryz.func127, Tryz.ntmps127
    go_wp2_with fail
    rw [← hx]
    clear hx
    refine wp_region_held (S := fun Y => Below x0.heap.size x0 Y) (by kernel_rfl) ?_
    change wpAnyH _ _ _ _ _ _ _ _ (World.drew _)
    have hb0 : Below x0.heap.size x0 x0.drew := (Below.refl _ _).drew
    refine wpAnyH_all (rs := [0]) (by kernel_rfl) (by simp) ?_
    intro i hi; obtain rfl : i = 0 := by simpa using hi
    refine wpOp_step rfl (fun K hK => ?_)
    rw [if_pos (by kernel_rfl)]
    go_simp
    go_at_call 58
    refine (fits (w.heap.size + 1) a b c adL L.length capL _ hmL' (F0.below hb0 (by omega))).mono ?_
    rintro e y1 ⟨rfl, hy1⟩
    rw [hok]
    have hb1 : Below x0.heap.size x0 y1 := by rw [hy1]; exact hb0
    clear hy1
    refine hK _ _ ⟨hb1, ?_⟩
    clear hK K hi
    refine takeW 1 8 (.bool true) rfl rfl (by kernel_rfl) (by kernel_rfl) (by kernel_rfl) (fun _ _ _ h => h) (by kernel_rfl) (by (intro w hSw; go_simp)) (by assumption) ?_
    simp only [List.set_cons_zero, List.set_cons_succ]
    refine takeW 2 9 (.bool true) rfl rfl (by kernel_rfl) (by kernel_rfl) (by kernel_rfl) (fun _ _ _ h => h) (by kernel_rfl) (by (intro w hSw; go_simp)) (by assumption) ?_
    simp only [List.set_cons_zero, List.set_cons_succ]
    refine takeS 3 10 rfl rfl (by kernel_rfl) (by kernel_rfl) (by kernel_rfl) (fun _ _ _ h => h) (by kernel_rfl) (by assumption) ?_
    simp only [List.set_cons_zero, List.set_cons_succ]
    refine takeS 4 11 rfl rfl (by kernel_rfl) (by kernel_rfl) (by kernel_rfl) (fun _ _ _ h => h) (by kernel_rfl) (by assumption) ?_
    simp only [List.set_cons_zero, List.set_cons_succ]
    refine takeS 5 12 rfl rfl (by kernel_rfl) (by kernel_rfl) (by kernel_rfl) (fun _ _ _ h => h) (by kernel_rfl) (by assumption) ?_
    simp only [List.set_cons_zero, List.set_cons_succ]
    refine takeS 6 13 rfl rfl (by kernel_rfl) (by kernel_rfl) (by kernel_rfl) (fun _ _ _ h => h) (by kernel_rfl) (by assumption) ?_
    simp only [List.set_cons_zero, List.set_cons_succ]
    refine takeS 7 14 rfl rfl (by kernel_rfl) (by kernel_rfl) (by kernel_rfl) (fun _ _ _ h => h) (by kernel_rfl) (by assumption) ?_
    simp only [List.set_cons_zero, List.set_cons_succ]
    refine takeS 8 15 rfl rfl (by kernel_rfl) (by kernel_rfl) (by kernel_rfl) (fun _ _ _ h => h) (by kernel_rfl) (by assumption) ?_
    simp only [List.set_cons_zero, List.set_cons_succ]
    refine takeW 9 16 (.bool true) rfl rfl (by kernel_rfl) (by kernel_rfl) (by kernel_rfl) (fun _ _ _ h => h) (by kernel_rfl) (by (intro w hSw; go_simp)) (by assumption) ?_
    simp only [List.set_cons_zero, List.set_cons_succ]
    refine wpAnyH_done (by kernel_rfl) ?_ _
    have RW := R0.below hb1 (by omega)
    have ZW := fz_below Z0 hb1 (by omega)
    have B1 := B0.trans (hb1.mono (by omega))
    clear hok
    obtain ⟨r1, r2, r3, r4⟩ := RW
    have z0 := ZW 0
    have z1 := ZW 1
    have z2 := ZW 2
    have z3 := ZW 3
    go_wp2
    refine bodyPost_ret (v := .tuple #[.agg #[.int .i64 0, .int .i64 0, .int .i64 0, .slice none 0 0], .bool false]) (by simp [results, Tryz.results127, go_sem, *]) rfl ?_
    rw [hres.out]
    exact ownFB_no _ rfl (((((B1).setCell (by simp; omega) _).setCell (by simp; omega) _).setCell (by simp; omega) _).setCell (by simp; omega) _)
  | true =>
    cases hmo : (mOk own f len && hasIn f len c) with
    | false =>
      have hres : Hid (outR own f len a b c L = FR.no) := outR_no (by intro h; rw [h.2.1, h.2.2] at hmo; cases hmo)
      go_enter Tryz.func127, Tryz.ntmps127
      go_wp2_with fail
      rw [← hx]
      clear hx
      refine wp_region_held (S := fun Y => Below x0.heap.size x0 Y) (by kernel_rfl) ?_
      change wpAnyH _ _ _ _ _ _ _ _ (World.drew _)
      have hb0 : Below x0.heap.size x0 x0.drew := (Below.refl _ _).drew
      refine wpAnyH_all (rs := [0]) (by kernel_rfl) (by simp) ?_
      intro i hi; obtain rfl : i = 0 := by simpa using hi
      refine wpOp_step rfl (fun K hK => ?_)
      rw [if_pos (by kernel_rfl)]
      go_simp
      go_at_call 58
      refine (fits (w.heap.size + 1) a b c adL L.length capL _ hmL' (F0.below hb0 (by omega))).mono ?_
      rintro e y1 ⟨rfl, hy1⟩
      rw [hok]
      have hb1 : Below x0.heap.size x0 y1 := by rw [hy1]; exact hb0
      clear hy1
      refine hK _ _ ⟨hb1, ?_⟩
      clear hK K hi
      refine takeW 1 8 (.bool false) rfl rfl (by kernel_rfl) (by kernel_rfl) (by kernel_rfl) (fun _ _ _ h => h) (by kernel_rfl) (by (intro w hSw; go_simp)) (by assumption) ?_
      simp only [List.set_cons_zero, List.set_cons_succ]
      refine takeW 2 9 (.bool false) rfl rfl (by kernel_rfl) (by kernel_rfl) (by kernel_rfl) (fun _ _ _ h => h) (by kernel_rfl) (by (intro w hSw; go_simp)) (by assumption) ?_
      simp only [List.set_cons_zero, List.set_cons_succ]
      refine takeW 3 10 (.agg #[.int .i64 own, .slice ad len cap]) rfl rfl (by kernel_rfl) (by kernel_rfl) (by kernel_rfl) (fun _ _ _ h => h) (by kernel_rfl) (by (intro Y hSw; obtain ⟨C1, C2⟩ := M0.below hSw (by omega); go_simp)) (by assumption) ?_
      simp only [List.set_cons_zero, List.set_cons_succ]
      refine takeW 5 12 (.pointer (some ⟨w.heap.size + 1, 2, none⟩)) rfl rfl (by kernel_rfl) (by kernel_rfl) (by kernel_rfl) (fun _ _ _ h => h) (by kernel_rfl) (by (intro w hSw; go_simp)) (by assumption) ?_
      simp only [List.set_cons_zero, List.set_cons_succ]
      refine takeW 6 13 (.int .i64 c) rfl rfl (by kernel_rfl) (by kernel_rfl) (by kernel_rfl) (fun _ _ _ h => h) (by kernel_rfl) (by (intro Y hSw; obtain ⟨C1, C2, C3, C4⟩ := F0.below hSw (by omega); go_simp)) (by assumption) ?_
      simp only [List.set_cons_zero, List.set_cons_succ]
      refine wpAnyH_all (rs := [4]) (by kernel_rfl) (by simp) ?_
      intro i hi; obtain rfl : i = 4 := by simpa using hi
      refine wpOp_step rfl (fun K hK => ?_)
      rw [if_pos (by kernel_rfl)]
      go_simp
      go_at_call 59
      refine (netsIn own ad len cap f _ (hv0.below hb1 (Nat.le_refl _)) hm).mono ?_
      rintro e y2 ⟨rfl, kq2⟩
      have hb2 : Below x0.heap.size x0 y2 := hb1.trans (kq2.mono hb1.size)
      refine hK _ _ ⟨hb2, ?_⟩
      clear hK K hi
      refine wpAnyH_all (rs := [7]) (by kernel_rfl) (by simp) ?_
      intro i hi; obtain rfl : i = 7 := by simpa using hi
      refine wpOp_step rfl (fun K hK => ?_)
      rw [if_pos (by kernel_rfl)]
      go_simp
      go_at_call 60
      refine (hasN _ _ _ _ c y2).mono ?_
      rintro e y3 ⟨rfl, kq3⟩
      rw [hasB_in, mOk_has, hmo]
      have hb3 : Below x0.heap.size x0 y3 := hb2.trans (kq3.mono hb2.size)
      refine hK _ _ ⟨hb3, ?_⟩
      clear hK K hi
      refine takeW 8 15 (.bool true) rfl rfl (by kernel_rfl) (by kernel_rfl) (by kernel_rfl) (fun _ _ _ h => h) (by kernel_rfl) (by (intro w hSw; go_simp)) (by assumption) ?_
      simp only [List.set_cons_zero, List.set_cons_succ]
      refine takeW 9 16 (.bool true) rfl rfl (by kernel_rfl) (by kernel_rfl) (by kernel_rfl) (fun _ _ _ h => h) (by kernel_rfl) (by (intro w hSw; go_simp)) (by assumption) ?_
      simp only [List.set_cons_zero, List.set_cons_succ]
      refine wpAnyH_done (by kernel_rfl) ?_ _
      have RW := R0.below hb3 (by omega)
      have ZW := fz_below Z0 hb3 (by omega)
      have B3 := B0.trans (hb3.mono (by omega))
      clear hok hmo
      obtain ⟨r1, r2, r3, r4⟩ := RW
      have z0 := ZW 0
      have z1 := ZW 1
      have z2 := ZW 2
      have z3 := ZW 3
      go_wp2
      refine bodyPost_ret (v := .tuple #[.agg #[.int .i64 0, .int .i64 0, .int .i64 0, .slice none 0 0], .bool false]) (by simp [results, Tryz.results127, go_sem, *]) rfl ?_
      rw [hres.out]
      exact ownFB_no _ rfl (((((B3).setCell (by simp; omega) _).setCell (by simp; omega) _).setCell (by simp; omega) _).setCell (by simp; omega) _)
    | true =>
      have hyes := outR_yes (own := own) (f := f) (n := len) (a := a) (b := b) (c := c) (L := L) ⟨hok, by simpa [Bool.and_eq_true] using hmo⟩
      go_enter Tryz.func127, Tryz.ntmps127
      go_wp2_with fail
      rw [← hx]
      clear hx
      refine wp_region_held (S := fun Y => Below x0.heap.size x0 Y) (by kernel_rfl) ?_
      change wpAnyH _ _ _ _ _ _ _ _ (World.drew _)
      have hb0 : Below x0.heap.size x0 x0.drew := (Below.refl _ _).drew
      refine wpAnyH_all (rs := [0]) (by kernel_rfl) (by simp) ?_
      intro i hi; obtain rfl : i = 0 := by simpa using hi
      refine wpOp_step rfl (fun K hK => ?_)
      rw [if_pos (by kernel_rfl)]
      go_simp
      go_at_call 58
      refine (fits (w.heap.size + 1) a b c adL L.length capL _ hmL' (F0.below hb0 (by omega))).mono ?_
      rintro e y1 ⟨rfl, hy1⟩
      rw [hok]
      have hb1 : Below x0.heap.size x0 y1 := by rw [hy1]; exact hb0
      clear hy1
      refine hK _ _ ⟨hb1, ?_⟩
      clear hK K hi
      refine takeW 1 8 (.bool false) rfl rfl (by kernel_rfl) (by kernel_rfl) (by kernel_rfl) (fun _ _ _ h => h) (by kernel_rfl) (by (intro w hSw; go_simp)) (by assumption) ?_
      simp only [List.set_cons_zero, List.set_cons_succ]
      refine takeW 2 9 (.bool false) rfl rfl (by kernel_rfl) (by kernel_rfl) (by kernel_rfl) (fun _ _ _ h => h) (by kernel_rfl) (by (intro w hSw; go_simp)) (by assumption) ?_
      simp only [List.set_cons_zero, List.set_cons_succ]
      refine takeW 3 10 (.agg #[.int .i64 own, .slice ad len cap]) rfl rfl (by kernel_rfl) (by kernel_rfl) (by kernel_rfl) (fun _ _ _ h => h) (by kernel_rfl) (by (intro Y hSw; obtain ⟨C1, C2⟩ := M0.below hSw (by omega); go_simp)) (by assumption) ?_
      simp only [List.set_cons_zero, List.set_cons_succ]
      refine takeW 5 12 (.pointer (some ⟨w.heap.size + 1, 2, none⟩)) rfl rfl (by kernel_rfl) (by kernel_rfl) (by kernel_rfl) (fun _ _ _ h => h) (by kernel_rfl) (by (intro w hSw; go_simp)) (by assumption) ?_
      simp only [List.set_cons_zero, List.set_cons_succ]
      refine takeW 6 13 (.int .i64 c) rfl rfl (by kernel_rfl) (by kernel_rfl) (by kernel_rfl) (fun _ _ _ h => h) (by kernel_rfl) (by (intro Y hSw; obtain ⟨C1, C2, C3, C4⟩ := F0.below hSw (by omega); go_simp)) (by assumption) ?_
      simp only [List.set_cons_zero, List.set_cons_succ]
      refine wpAnyH_all (rs := [4]) (by kernel_rfl) (by simp) ?_
      intro i hi; obtain rfl : i = 4 := by simpa using hi
      refine wpOp_step rfl (fun K hK => ?_)
      rw [if_pos (by kernel_rfl)]
      go_simp
      go_at_call 59
      refine (netsIn own ad len cap f _ (hv0.below hb1 (Nat.le_refl _)) hm).mono ?_
      rintro e y2 ⟨rfl, kq2⟩
      have hb2 : Below x0.heap.size x0 y2 := hb1.trans (kq2.mono hb1.size)
      refine hK _ _ ⟨hb2, ?_⟩
      clear hK K hi
      refine wpAnyH_all (rs := [7]) (by kernel_rfl) (by simp) ?_
      intro i hi; obtain rfl : i = 7 := by simpa using hi
      refine wpOp_step rfl (fun K hK => ?_)
      rw [if_pos (by kernel_rfl)]
      go_simp
      go_at_call 60
      refine (hasN _ _ _ _ c y2).mono ?_
      rintro e y3 ⟨rfl, kq3⟩
      rw [hasB_in, mOk_has, hmo]
      have hb3 : Below x0.heap.size x0 y3 := hb2.trans (kq3.mono hb2.size)
      refine hK _ _ ⟨hb3, ?_⟩
      clear hK K hi
      refine takeW 8 15 (.bool false) rfl rfl (by kernel_rfl) (by kernel_rfl) (by kernel_rfl) (fun _ _ _ h => h) (by kernel_rfl) (by (intro w hSw; go_simp)) (by assumption) ?_
      simp only [List.set_cons_zero, List.set_cons_succ]
      refine takeW 9 16 (.bool false) rfl rfl (by kernel_rfl) (by kernel_rfl) (by kernel_rfl) (fun _ _ _ h => h) (by kernel_rfl) (by (intro w hSw; go_simp)) (by assumption) ?_
      simp only [List.set_cons_zero, List.set_cons_succ]
      refine wpAnyH_done (by kernel_rfl) ?_ _
      have s3 := hb3.size
      have RW := R0.below hb3 (by omega)
      have ZW := fz_below Z0 hb3 (by omega)
      have B3 := B0.trans (hb3.mono (by omega))
      have F3 := F0.below hb3 (by omega)
      have M3 := M0.below hb3 (by omega)
      have hvL3 : View y3 adL L.length (fun i => L.getD i 0) := hvL0.carry (fun x h hp => hb3.block _ (hvL0.lt x h hp))
      clear hok hmo
      obtain ⟨C1, C2⟩ := M3
      obtain ⟨E1, E2, E3, E4⟩ := F3
      have F3 : FrameAt y3 (w.heap.size + 1) a b c adL L.length capL := ⟨E1, E2, E3, E4⟩
      by_cases hc : c = own
      · obtain rfl : own = c := hc.symm
        clear hc
        rw [if_pos rfl] at hyes
        have hres : Hid _ := hyes
        clear hyes
        go_wp2_with fail
        go_at_call 61
        refine (frameInNet (w.heap.size + 1) a b own 0 adL capL L y3 F3 hvL3 hmL).mono ?_
        rintro e x4 ⟨ad4, cap4, rfl, o4, k4⟩
        have s4 := k4.size
        have B4 := B3.trans (k4.mono (by omega))
        obtain ⟨r1, r2, r3, r4⟩ := RW.below k4 (by omega)
        have Z4 := fz_below ZW k4 (by omega)
        have z0 := Z4 0
        have z1 := Z4 1
        have z2 := Z4 2
        have z3 := Z4 3
        clear RW ZW
        go_wp2
        refine bodyPost_ret (v := .tuple #[.agg #[.int .i64 a, .int .i64 b, .int .i64 0, .slice ad4 L.length cap4], .bool true]) (by simp [results, Tryz.results127, go_sem, *]) rfl ?_
        rw [hres.out]
        refine ⟨ad4, cap4, rfl, own_base (own_keep o4 (fun g hg => ?_)) (by omega : w.heap.size ≤ y3.heap.size), ((((B4).setCell (by simp; omega) _).setCell (by simp; omega) _).setCell (by simp; omega) _).setCell (by simp; omega) _⟩
        rw [Below.heap_setCell _ _ _ _ (by show g ≠ w.heap.size + 1 + 1; omega), Below.heap_setCell _ _ _ _ (by show g ≠ w.heap.size + 1 + 1; omega), Below.heap_setCell _ _ _ _ (by show g ≠ w.heap.size + 1 + 1; omega), Below.heap_setCell _ _ _ _ (by show g ≠ w.heap.size + 1 + 1; omega)]
      · have hd : decide (c = own) = false := decide_eq_false hc
        rw [if_neg hc] at hyes
        have hres : Hid _ := hyes
        clear hyes
        go_wp2_with fail
        go_at_call 61
        refine (frameInNet (w.heap.size + 1) a b c c adL capL L y3 F3 hvL3 hmL).mono ?_
        rintro e x4 ⟨ad4, cap4, rfl, o4, k4⟩
        have s4 := k4.size
        have B4 := B3.trans (k4.mono (by omega))
        obtain ⟨r1, r2, r3, r4⟩ := RW.below k4 (by omega)
        have Z4 := fz_below ZW k4 (by omega)
        have z0 := Z4 0
        have z1 := Z4 1
        have z2 := Z4 2
        have z3 := Z4 3
        clear RW ZW
        go_wp2
        refine bodyPost_ret (v := .tuple #[.agg #[.int .i64 a, .int .i64 b, .int .i64 c, .slice ad4 L.length cap4], .bool true]) (by simp [results, Tryz.results127, go_sem, *]) rfl ?_
        rw [hres.out]
        refine ⟨ad4, cap4, rfl, own_base (own_keep o4 (fun g hg => ?_)) (by omega : w.heap.size ≤ y3.heap.size), ((((B4).setCell (by simp; omega) _).setCell (by simp; omega) _).setCell (by simp; omega) _).setCell (by simp; omega) _⟩
        rw [Below.heap_setCell _ _ _ _ (by show g ≠ w.heap.size + 1 + 1; omega), Below.heap_setCell _ _ _ _ (by show g ≠ w.heap.size + 1 + 1; omega), Below.heap_setCell _ _ _ _ (by show g ≠ w.heap.size + 1 + 1; omega), Below.heap_setCell _ _ _ _ (by show g ≠ w.heap.size + 1 + 1; omega)]

end Go.Proofs.YtifndemkkaelaaaGreat
