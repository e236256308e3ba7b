/- slices.SortFunc at what was heard. -/
import Derived.Test.YtifndemkkaelaaaGreatRows
import Derived.WalkKit
import Derived.ProofKit
import Derived.OpenShut
import Derived.ShutString
import Derived.ChangeOld
import Derived.Below
import Derived.Deep.QuietTactic
import Derived.BigQuiet
import Derived.WalkSmall
import Derived.Laws.OwnMore
import Derived.WalkSpells
import Derived.Test.YtifndemkkaelaaaGreatZpHearMath
import Derived.Test.YtifndemkkaelaaaGreatZp41
import Derived.Test.YtifndemkkaelaaaGreatZpHeard13
namespace Go.Proofs.YtifndemkkaelaaaGreat
open Go.ChangeShapes Go.WideShapes Go.ChangeAt Go.RowKit
open Go.ChangeMaps (open_string shut_string)
set_option linter.unusedVariables false
set_option maxRecDepth 100000

/-- The worlds that compareHeard passes through. -/
def S0G (x y : Hd) (w Y : World) : Prop := S0 x y w Y ∧ ∃ q os, Y = Go.Sort.grow (w.drewN q) os
theorem S0G.drew {x y : Hd} {w Y : World} (h : S0G x y w Y) : S0G x y w Y.drew := by
  obtain ⟨h1, q, os, rfl⟩ := h
  exact ⟨h1.drew, q + 1, os, rfl⟩
theorem S0G.alloc {x y : Hd} {w Y : World} (h : S0G x y w Y) (o : Obj) : S0G x y w (Y.alloc o) := by
  obtain ⟨h1, q, os, rfl⟩ := h
  exact ⟨h1.alloc o, q, os ++ #[o], by rw [Go.Sort.alloc_eq_grow, Go.Sort.grow_grow]⟩
set_option maxHeartbeats 1000000 in
theorem cmpHG (x y : Hd) (w : World) :
    Calls Tryz.prog 124 #[.agg #[.int .i64 x.a, .int .i64 x.v, .int .i64 x.p, .int .i64 x.l], .agg #[.int .i64 y.a, .int .i64 y.v, .int .i64 y.p, .int .i64 y.l]] w fun e w' => e = .returned (.int .i64 (x.cmp y)) ∧ ∃ q os', w' = Go.Sort.grow (w.drewN q) os' := by
  go_enter Tryz.func124, Tryz.ntmps124
  go_wp2_with fail
  obtain ⟨w0, hw0⟩ : ∃ w0, w0 = (w.alloc (Obj.cells #[.int .i64 x.a, .int .i64 x.v, .int .i64 x.p, .int .i64 x.l] 97)).alloc (Obj.cells #[.int .i64 y.a, .int .i64 y.v, .int .i64 y.p, .int .i64 y.l] 97) := ⟨_, rfl⟩
  have hs0 : S0G x y w w0 := by
    rw [hw0]
    refine ⟨⟨?_, ?_, ?_, ?_⟩, 0, _, by rw [Go.Sort.alloc_eq_grow, Go.Sort.alloc_eq_grow, Go.Sort.grow_grow]; rfl⟩
    · refine ⟨?_, ?_, ?_, ?_⟩ <;> simp [go_sem]
    · refine ⟨?_, ?_, ?_, ?_⟩ <;> simp [go_sem]
    · exact ((Below.refl _ _).alloc (Nat.le_refl _) _).alloc (by simp) _
    · simp
  rw [← hw0]
  clear hw0
  refine wp_region_held (S := S0G x y w) (by kernel_rfl) ?_
  change wpAnyH _ _ _ _ _ _ _ _ (World.drew _)
  have hS0 : S0G x y w w0.drew := hs0.drew
  refine takeW 0 5 (.pointer (some ⟨w.heap.size, 1, none⟩)) rfl rfl (by kernel_rfl) (by kernel_rfl) (by kernel_rfl) (fun _ _ _ h => h) (by kernel_rfl) (by (intro w hSw; go_simp)) (by assumption) ?_
  simp only [List.set_cons_zero, List.set_cons_succ]
  refine takeW 1 6 (.int .i64 x.v) rfl rfl (by kernel_rfl) (by kernel_rfl) (by kernel_rfl) (fun _ _ _ h => h) (by kernel_rfl) (by (intro Y hSw; obtain ⟨⟨⟨X1, X2, X3, X4⟩, ⟨Y1, Y2, Y3, Y4⟩, _⟩, _⟩ := hSw; simp only [Nat.zero_add] at X1 X2 X3 X4 Y1 Y2 Y3 Y4; go_simp)) (by assumption) ?_
  simp only [List.set_cons_zero, List.set_cons_succ]
  refine takeW 2 7 (.pointer (some ⟨w.heap.size + 1, 1, none⟩)) rfl rfl (by kernel_rfl) (by kernel_rfl) (by kernel_rfl) (fun _ _ _ h => h) (by kernel_rfl) (by (intro w hSw; go_simp)) (by assumption) ?_
  simp only [List.set_cons_zero, List.set_cons_succ]
  refine takeW 3 8 (.int .i64 y.v) rfl rfl (by kernel_rfl) (by kernel_rfl) (by kernel_rfl) (fun _ _ _ h => h) (by kernel_rfl) (by (intro Y hSw; obtain ⟨⟨⟨X1, X2, X3, X4⟩, ⟨Y1, Y2, Y3, Y4⟩, _⟩, _⟩ := hSw; simp only [Nat.zero_add] at X1 X2 X3 X4 Y1 Y2 Y3 Y4; go_simp)) (by assumption) ?_
  simp only [List.set_cons_zero, List.set_cons_succ]
  refine takeW 5 10 (.pointer (some ⟨w.heap.size, 0, none⟩)) rfl rfl (by kernel_rfl) (by kernel_rfl) (by kernel_rfl) (fun _ _ _ h => h) (by kernel_rfl) (by (intro w hSw; go_simp)) (by assumption) ?_
  simp only [List.set_cons_zero, List.set_cons_succ]
  refine takeW 6 11 (.int .i64 x.a) rfl rfl (by kernel_rfl) (by kernel_rfl) (by kernel_rfl) (fun _ _ _ h => h) (by kernel_rfl) (by (intro Y hSw; obtain ⟨⟨⟨X1, X2, X3, X4⟩, ⟨Y1, Y2, Y3, Y4⟩, _⟩, _⟩ := hSw; simp only [Nat.zero_add] at X1 X2 X3 X4 Y1 Y2 Y3 Y4; go_simp)) (by assumption) ?_
  simp only [List.set_cons_zero, List.set_cons_succ]
  refine takeW 7 12 (.pointer (some ⟨w.heap.size + 1, 0, none⟩)) rfl rfl (by kernel_rfl) (by kernel_rfl) (by kernel_rfl) (fun _ _ _ h => h) (by kernel_rfl) (by (intro w hSw; go_simp)) (by assumption) ?_
  simp only [List.set_cons_zero, List.set_cons_succ]
  refine takeW 8 13 (.int .i64 y.a) rfl rfl (by kernel_rfl) (by kernel_rfl) (by kernel_rfl) (fun _ _ _ h => h) (by kernel_rfl) (by (intro Y hSw; obtain ⟨⟨⟨X1, X2, X3, X4⟩, ⟨Y1, Y2, Y3, Y4⟩, _⟩, _⟩ := hSw; simp only [Nat.zero_add] at X1 X2 X3 X4 Y1 Y2 Y3 Y4; go_simp)) (by assumption) ?_
  simp only [List.set_cons_zero, List.set_cons_succ]
  refine wpAnyH_all (rs := [4]) (by kernel_rfl) (by simp) ?_
  intro i hi; obtain rfl : i = 4 := by simpa using hi
  refine wpOp_step rfl (fun K hK => ?_)
  rw [if_pos (by kernel_rfl)]
  go_simp
  go_at_call 135
  refine (cmpI x.v y.v _).mono ?_
  rintro e y1 ⟨rfl, hy1⟩
  subst hy1
  refine hK _ _ ⟨hS0, ?_⟩
  clear hK K hi
  refine wpAnyH_all (rs := [9]) (by kernel_rfl) (by simp) ?_
  intro i hi; obtain rfl : i = 9 := by simpa using hi
  refine wpOp_step rfl (fun K hK => ?_)
  rw [if_pos (by kernel_rfl)]
  go_simp
  go_at_call 135
  refine (cmpI x.a y.a _).mono ?_
  rintro e y1 ⟨rfl, hy1⟩
  subst hy1
  refine hK _ _ ⟨hS0, ?_⟩
  clear hK K hi
  refine wpAnyH_all (rs := [10]) (by kernel_rfl) (by simp) ?_
  intro i hi; obtain rfl : i = 10 := by simpa using hi
  refine wpOp_step rfl (fun K hK => ?_)
  rw [if_pos (by kernel_rfl)]
  go_simp
  have hS1 : S0G x y w (w0.drew.alloc (Obj.cells #[.int .i64 (cmp3 x.v y.v), .int .i64 (cmp3 x.a y.a)] 3)) := hS0.alloc _
  refine hK _ _ ⟨hS1, ?_⟩
  clear hK K hi
  refine wpAnyH_all (rs := [11]) (by kernel_rfl) (by simp) ?_
  intro i hi; obtain rfl : i = 11 := by simpa using hi
  refine wpOp_step rfl (fun K hK => ?_)
  rw [if_pos (by kernel_rfl)]
  go_simp
  go_at_call 134
  refine (orI _ (cmp3 x.v y.v) (cmp3 x.a y.a) _ ?q0 ?q1).mono ?_
  case q0 => simp [go_sem]
  case q1 => simp [go_sem]
  rintro e y1 ⟨rfl, hy1⟩
  subst hy1
  refine hK _ _ ⟨hS1, ?_⟩
  clear hK K hi
  refine takeW 12 4 (.int .i64 (or2 (cmp3 x.v y.v) (cmp3 x.a y.a))) rfl rfl (by kernel_rfl) (by kernel_rfl) (by kernel_rfl) (fun _ _ _ h => h) (by kernel_rfl) (by (intro w hSw; go_simp)) (by assumption) ?_
  simp only [List.set_cons_zero, List.set_cons_succ]
  refine wpAnyH_done (by kernel_rfl) ?_ _
  go_wp2
  go_ret
  exact ⟨rfl, hS1.2⟩
/-- The cells of one that was heard. -/
def encH (h : Hd) : List Value := [.int .i64 h.a, .int .i64 h.v, .int .i64 h.p, .int .i64 h.l]
theorem cmp_lt (x y : Hd) : decide (x.cmp y < 0) = x.bef y := by
  unfold Hd.cmp or2 Hd.bef cmp3
  rw [decide_eq_decide]
  (repeat' split) <;> omega
theorem cmp_zero (x y : Hd) : decide (x.cmp y = 0) = x.same y := by
  unfold Hd.cmp or2 Hd.same cmp3
  rw [decide_eq_decide]
  (repeat' split) <;> omega
theorem swoH : Go.Sort.SWO (ltOf Hd.cmp) where
  irrefl x := by show decide _ = false; rw [cmp_lt]; exact bef_irr x
  trans x y z h1 h2 := by
    have h1 : decide _ = true := h1
    have h2 : decide _ = true := h2
    show decide _ = true
    rw [cmp_lt] at *
    exact bef_tr h1 h2
  ntrans x y z h1 h2 := by
    have h1 : decide _ = false := h1
    have h2 : decide _ = false := h2
    show decide _ = false
    rw [cmp_lt] at *
    unfold Hd.bef at *
    simp only [decide_eq_false_iff_not] at *
    omega
theorem hcells_get (L : List Hd) (t : Nat) (h : t < L.length * 4) : (hcells L)[t]? = (encH (L.getD (t / 4) Hd.nil))[t % 4]? := by
  obtain ⟨c1, c2, c3, c4⟩ := hcells_at (L := L) (i := t / 4) (by omega)
  rcases (by omega : t = t / 4 * 4 ∨ t = t / 4 * 4 + 1 ∨ t = t / 4 * 4 + 2 ∨ t = t / 4 * 4 + 3) with e | e | e | e
  · rw [show t % 4 = 0 by omega]; conv => lhs; rw [e]
    exact c1
  · rw [show t % 4 = 1 by omega]; conv => lhs; rw [e]
    exact c2
  · rw [show t % 4 = 2 by omega]; conv => lhs; rw [e]
    exact c3
  · rw [show t % 4 = 3 by omega]; conv => lhs; rw [e]
    exact c4
theorem flat_hcells [Inhabited Hd] (d : Array Hd) : Go.Sort.flatK encH 4 d = (hcells d.toList).toArray := by
  refine Go.Sort.ext_get! (by simp [hcells_len]) fun t ht => ?_
  rw [Go.Sort.size_flatK] at ht
  rw [Go.Sort.get_flatK _ _ _ _ ht]
  have h1 := hcells_get d.toList t (by simpa using ht)
  have h2 : d.toList.getD (t / 4) Hd.nil = d[t / 4]! := by
    have : t / 4 < d.size := by omega
    simp [List.getD, this]
  rw [h2] at h1
  have h3 : t % 4 < (encH d[t / 4]!).length := by simp [encH]; omega
  rw [List.getElem?_eq_getElem h3] at h1
  have h4 : (hcells d.toList).toArray[t]! = (encH d[t / 4]!)[t % 4] := by
    rw [Array.getElem!_eq_getD, Array.getD_eq_getD_getElem?]
    simp [h1]
  rw [h4]
  simp [h3]
set_option maxHeartbeats 1000000 in
theorem sortF (base : Nat) (v : Value) (M : List Hd) (w : World) (hown : HOwn w base v M) (hp : 0 < M.length) (hl : M.length ≤ 1048576) :
    Calls Tryz.prog 125 #[v, .func (Fn.func 124) #[] #[]] w fun e w' => e = .returned (.tuple #[]) ∧ ∃ N, HOwn w' base v N ∧ M.Perm N ∧ N.Pairwise (fun x y => y.bef x = false) ∧ w.grownBy w' v.ownBlock := by
  haveI : Inhabited Hd := ⟨Hd.nil⟩
  have hown' : w.ownsRow base 97 4 v M.length (hcells M) := hown
  rcases hown'.2 with ⟨_, h0⟩ | ⟨g, cap, cur, rfl, hb, hh, hnc, hcm, hcs, htk⟩
  · omega
  have hg : g < w.heap.size := (Array.getElem?_eq_some_iff.1 hh).1
  have hH : Go.Sort.HoldsK encH 4 w g 0 M.toArray := by
    intro j hj
    rw [flat_hcells] at hj ⊢
    have hj' : j < (hcells M).length := by simpa using hj
    refine ⟨?_, hown'.frozenAt _⟩
    rw [Nat.zero_add, hown'.cellAt j (by rw [hcells_len] at hj'; exact hj')]
    simp [hj']
  have eg : ∀ args w, (callFunc 124 args).run Tryz.prog w = .ok (.enter 124 args) w := enters_of Tryz.func124 (by kernel_rfl) rfl
  have hcon := AnyQ.slices_SortFunc Tryz.sortHd 4 Tryz.isAgg97 Tryz.sizeOf97 encH (fun _ => rfl) (fun x u hu => by simp [encH] at hu; rcases hu with rfl | rfl | rfl | rfl <;> rfl) Hd.cmp swoH 124 #[] g 0 cap M.toArray w eg (fun _ _ _ _ x y => cmpHG x y _) hH hg (by simp; omega)
  have hsz : M.toArray.size = M.length := by simp
  rw [hsz] at hcon
  change Calls Tryz.prog 125 _ _ _ at hcon
  refine hcon.mono ?_
  rintro e w' ⟨rfl, d', n, os, hperm, hsort, rfl⟩
  obtain ⟨hds, _, hpm⟩ := hperm
  have hds : d'.size = M.length := by simpa using hds
  have e1 : (d'.extract 0 M.length).toList = d'.toList := by rw [← hds]; simp
  have e2 : (M.toArray.extract 0 M.length).toList = M := by simp
  rw [e1, e2] at hpm
  have hNl : d'.toList.length = M.length := by simpa using hds
  refine ⟨rfl, d'.toList, ?_, hpm.symm, ?_, ?_⟩
  · show World.ownsRow _ base 97 4 (.slice (some ⟨g, 0, none⟩) M.length cap) d'.toList.length (hcells d'.toList)
    rw [hNl]
    refine ⟨by rw [hcells_len, hNl], .inr ⟨g, cap, Go.Sort.putCells id 0 (hcells d'.toList).toArray cur, rfl, hb, ?_, hnc, hcm, by simp [Go.Sort.putCells, hcs], ?_⟩⟩
    · unfold sortWorldK Go.Sort.putRowK
      rw [flat_hcells, Go.Sort.heap_grow_old _ _ (by simpa using hg)]
      simp [Go.Sort.putRow, Go.Sort.mapBlock, Go.Sort.ahead, Array.getElem?_modify, hh, Go.Sort.onCells]
    · apply List.ext_getElem?
      intro j
      by_cases hj : j < M.length * 4
      · rw [List.getElem?_take_of_lt hj, Array.getElem?_toList]
        have hj2 : j < (hcells d'.toList).length := by rw [hcells_len, hNl]; exact hj
        have hj3 : j < cur.size := by rw [hcs]; omega
        simp [Go.Sort.putCells, hj2, hj3]
      · rw [List.getElem?_take_eq_none (by omega), List.getElem?_eq_none (by rw [hcells_len, hNl]; omega)]
  · rw [List.pairwise_iff_getElem]
    intro i j hi hj hij
    have := hsort i j (Nat.zero_le _) hij (by rw [← hNl]; exact hj)
    have this : decide _ = false := this
    rw [cmp_lt] at this
    have hi' : i < d'.size := by simpa using hi
    have hj' : j < d'.size := by simpa using hj
    simpa [hi', hj'] using this
  · show w.grownBy _ (some g)
    unfold sortWorldK Go.Sort.putRowK
    refine ⟨rfl, rfl, rfl, by simp, fun k hk hne => ?_⟩
    rw [Go.Sort.heap_grow_old _ _ (by simpa using hk)]
    have : g ≠ k := fun e => hne (by rw [e])
    simp [Go.Sort.putRow, Go.Sort.mapBlock, Go.Sort.ahead, Array.getElem?_modify, this]

end Go.Proofs.YtifndemkkaelaaaGreat
