/- (*minding).fall, walked. -/
import Derived.Test.YtplejmkbdonkpaaRows
import Derived.WalkKit
import Derived.ProofKit
import Derived.OpenShut
import Derived.ShutString
import Derived.ChangeOld
import Derived.Below
import Derived.Deep.QuietTactic
import Derived.BigQuiet
import Derived.WalkSmall
import Derived.Laws.OwnMore
import Derived.WalkSpells
import Derived.WalkLawsBesides
import Derived.Deep.Cut
import Derived.Lib.SliceRun
import Derived.Test.YtplejmkbdonkpaaMi1
import Derived.Test.YtplejmkbdonkpaaIs1
namespace Go.Proofs.Ytplejmkbdonkpaa
open Go.ChangeShapes Go.WideShapes Go.ChangeAt Go.RowKit
open Go.ChangeMaps (open_string shut_string)
set_option linter.unusedVariables false
set_option maxRecDepth 100000

theorem setCells_put (g : Nat) : ∀ (vs : List Value) (o : Nat) (w : World), w.setCells g o vs = putAll w g o vs
  | [], _, _ => rfl
  | v :: vs, o, w => setCells_put g vs (o + 1) (w.setCell ⟨g, o, none⟩ v)
/-- Only the blocks q and o have turned. -/
structure Turned (q : Nat) (o : Option Nat) (w w' : World) : Prop where
  os : w'.os = w.os
  tape : w'.tape = w.tape
  output : w'.output = w.output
  size : w.heap.size ≤ w'.heap.size
  block : ∀ k, k < w.heap.size → k ≠ q → o ≠ some k → w'.heap[k]? = w.heap[k]?
theorem Turned.below {q : Nat} {o : Option Nat} {w w' : World} (h : Turned q o w w') {B : Nat} (hB : B ≤ w.heap.size) (h1 : B ≤ q) (h2 : ∀ g, o = some g → B ≤ g) : Below B w w' :=
  ⟨h.os, h.tape, h.output, h.size, fun k hk => h.block k (by omega) (by omega) (fun e => by have := h2 k e; omega)⟩
theorem Turned.refl (q : Nat) (o : Option Nat) (w : World) : Turned q o w w := ⟨rfl, rfl, rfl, Nat.le_refl _, fun _ _ _ _ => rfl⟩
theorem Turned.set {q : Nat} {o : Option Nat} {w w' : World} (h : Turned q o w w') (i : Nat) (v : Value) : Turned q o w (w'.setCell ⟨q, i, none⟩ v) :=
  ⟨h.os, h.tape, h.output, by simpa using h.size, fun k hk h1 h2 => (Below.heap_setCell _ _ _ _ h1).trans (h.block k hk h1 h2)⟩
theorem Turned.put {q g : Nat} {w : World} (o : Nat) (vs : List Value) : Turned q (some g) w (putAll w g o vs) := by
  have hb := below_putAll (B := 0) (g := g) (a := w) (Nat.zero_le _) vs o (Below.refl 0 w)
  exact ⟨hb.os, hb.tape, hb.output, hb.size, fun k _ _ h2 => heap_putAll vs w o k (fun e => h2 (by rw [e]))⟩
theorem zeroIk (w : World) : (zeroValue 30).run Try.prog w = .ok (.agg #[.int .i64 0, .int .i64 0, .int .i64 0, .int .i64 0, .int .i64 0, .int .i64 0, .int .i64 0, .bool false]) w := by kernel_rfl
theorem clearIk (w : World) (ty : TypeId) (g n c : Nat) (hn : 0 < n) (hc : ∀ j, j < n * 8 → (w.cell? ⟨g, j, none⟩).isSome = true) (hf : ∀ j, w.frozen? ⟨g, j, none⟩ = false) :
    ∃ vs, (Builtin.clear_ #[24] ty #[.slice (some ⟨g, 0, none⟩) n c]).run Try.prog w = .ok (.tuple #[]) (putAll w g 0 vs) := by
  obtain ⟨z, hz⟩ : ∃ z, z = Value.agg #[.int .i64 0, .int .i64 0, .int .i64 0, .int .i64 0, .int .i64 0, .int .i64 0, .int .i64 0, .bool false] := ⟨_, rfl⟩
  have h8 : z.cells.size = 8 := by rw [hz]; rfl
  have hl : (Builtin.zeroCells z.cells n).toList.length = n * 8 := by simp [Builtin.zeroCells, h8]
  have h1 : ∀ v ∈ (Builtin.zeroCells z.cells n).toList, v.oneCell' = true := by
    intro v hv
    simp only [Builtin.zeroCells, h8, Array.toList_map, List.mem_map] at hv
    obtain ⟨i, _, rfl⟩ := hv
    have : i % 8 = 0 ∨ i % 8 = 1 ∨ i % 8 = 2 ∨ i % 8 = 3 ∨ i % 8 = 4 ∨ i % 8 = 5 ∨ i % 8 = 6 ∨ i % 8 = 7 := by omega
    rw [hz]
    rcases this with e | e | e | e | e | e | e | e <;> rw [e] <;> rfl
  have hst := run_storeCells_cells (P := Try.prog) g 0 (Builtin.zeroCells z.cells n).toList 0 w (by rw [hl]; simpa using hc) (fun j _ => by simpa using hf j) h1
  simp only [Nat.add_zero] at hst
  rw [setCells_put] at hst
  refine ⟨(Builtin.zeroCells z.cells n).toList, ?_⟩
  have hzv : ∀ w : World, (zeroValue 30).run Try.prog w = .ok z w := fun w => by rw [hz]; exact zeroIk w
  obtain ⟨k, rfl⟩ : ∃ k, n = k + 1 := ⟨n - 1, by omega⟩
  simp [Builtin.clear_, run_underlying Try.underlying24, hzv, hst]
set_option maxHeartbeats 2000000 in
theorem emptyI (m : Mi) (q base : Nat) (ad : Option Addr) (cap : Nat) (w : World) (M : MgBox w q m (.slice ad m.lg.length cap)) (O : FOwn ikEnc 8 30 base w (.slice ad m.lg.length cap) m.lg) (hq : ∀ g, (Value.slice ad m.lg.length cap).ownBlock = some g → g ≠ q) :
    Calls Try.prog 85 #[.pointer (some ⟨q, 0, none⟩)] w fun e w' => e = .returned (.tuple #[]) ∧ MgBox w' q m (.slice ad 0 cap) ∧ Turned q (Value.slice ad m.lg.length cap).ownBlock w w' := by
  have hcl : ∃ w1, (∀ ty, (Builtin.clear_ #[24] ty #[.slice ad m.lg.length cap]).run Try.prog w = .ok (.tuple #[]) w1) ∧ MgBox w1 q m (.slice ad m.lg.length cap) ∧ Turned q (Value.slice ad m.lg.length cap).ownBlock w w1 := by
    cases ad with
    | none =>
      refine ⟨w, fun ty => ?_, M, Turned.refl _ _ _⟩
      simp [Builtin.clear_, run_underlying Try.underlying24]
    | some a =>
      by_cases h0 : m.lg.length = 0
      · refine ⟨w, fun ty => ?_, M, Turned.refl _ _ _⟩
        rw [h0]
        simp [Builtin.clear_, run_underlying Try.underlying24]
      · have ha : ∃ g, a = ⟨g, 0, none⟩ := by
          rcases O.2 with ⟨e, _⟩ | ⟨g, c, cur, e, _⟩
          · cases e
          · simp only [Value.slice.injEq, Option.some.injEq] at e
            exact ⟨g, e.1⟩
        obtain ⟨g, rfl⟩ := ha
        have hc : ∀ j, j < m.lg.length * 8 → (w.cell? ⟨g, j, none⟩).isSome = true := fun j hj => by
          rw [World.ownsRow.cellAt O j hj]
          have hx : (fcells ikEnc m.lg).length = m.lg.length * 8 := fcells_len ikEnc_len _
          rw [List.getElem?_eq_getElem (by omega)]
          rfl
        have hne : q ≠ g := fun e => hq g rfl e.symm
        obtain ⟨vs, hvs⟩ := clearIk w 0 g m.lg.length cap (by omega) hc (fun j => O.frozen j)
        refine ⟨putAll w g 0 vs, fun ty => hvs, M.keep (heap_putAll vs w 0 q hne), Turned.put 0 vs⟩
  obtain ⟨w1, hcl, M1, T1⟩ := hcl
  have M2 := M1.log (.slice ad 0 cap)
  have T2 := T1.set 0 (.slice ad 0 cap)
  have c0 := M.c0
  have d0 := M1.c0
  have f0 := M1.fr 0
  clear M M1 T1 O hq
  cases ad with
  | none =>
    go_enter Try.func85, Try.ntmps85
    go_wp2_with (simp only [hcl])
    go_end0
    exact ⟨rfl, M2, T2⟩
  | some a =>
    go_enter Try.func85, Try.ntmps85
    go_wp2_with (simp only [hcl])
    go_end0
    exact ⟨rfl, M2, T2⟩
theorem MgBox.fallen {w : World} {q : Nat} {m : Mi} {v : Value} (h : MgBox w q m v) : MgBox ((((((w.setCell ⟨q, 1, none⟩ (.bool false)).setCell ⟨q, 2, none⟩ (.int .i64 m.li)).setCell ⟨q, 3, none⟩ (.int .i64 0)).setCell ⟨q, 4, none⟩ (.int .i64 0)).setCell ⟨q, 5, none⟩ (.int .i64 0)).setCell ⟨q, 6, none⟩ (.int .i64 0)) q ⟨false, m.li, 0, [], 0, 0, 0⟩ v := by
  obtain ⟨h0, h1, h2, h3, h4, h5, h6, hf⟩ := h
  have h0 : (w.setCell ⟨q, 1, none⟩ (.bool false)).cell? ⟨q, 0, none⟩ = _ := (pset_else (by decide)).trans h0
  have h1 : (w.setCell ⟨q, 1, none⟩ (.bool false)).cell? ⟨q, 1, none⟩ = some (.bool false) := pset_same h1
  have h2 : (w.setCell ⟨q, 1, none⟩ (.bool false)).cell? ⟨q, 2, none⟩ = _ := (pset_else (by decide)).trans h2
  have h3 : (w.setCell ⟨q, 1, none⟩ (.bool false)).cell? ⟨q, 3, none⟩ = _ := (pset_else (by decide)).trans h3
  have h4 : (w.setCell ⟨q, 1, none⟩ (.bool false)).cell? ⟨q, 4, none⟩ = _ := (pset_else (by decide)).trans h4
  have h5 : (w.setCell ⟨q, 1, none⟩ (.bool false)).cell? ⟨q, 5, none⟩ = _ := (pset_else (by decide)).trans h5
  have h6 : (w.setCell ⟨q, 1, none⟩ (.bool false)).cell? ⟨q, 6, none⟩ = _ := (pset_else (by decide)).trans h6
  have h0 : ((w.setCell ⟨q, 1, none⟩ (.bool false)).setCell ⟨q, 2, none⟩ (.int .i64 m.li)).cell? ⟨q, 0, none⟩ = _ := (pset_else (by decide)).trans h0
  have h1 : ((w.setCell ⟨q, 1, none⟩ (.bool false)).setCell ⟨q, 2, none⟩ (.int .i64 m.li)).cell? ⟨q, 1, none⟩ = _ := (pset_else (by decide)).trans h1
  have h2 : ((w.setCell ⟨q, 1, none⟩ (.bool false)).setCell ⟨q, 2, none⟩ (.int .i64 m.li)).cell? ⟨q, 2, none⟩ = some (.int .i64 m.li) := pset_same h2
  have h3 : ((w.setCell ⟨q, 1, none⟩ (.bool false)).setCell ⟨q, 2, none⟩ (.int .i64 m.li)).cell? ⟨q, 3, none⟩ = _ := (pset_else (by decide)).trans h3
  have h4 : ((w.setCell ⟨q, 1, none⟩ (.bool false)).setCell ⟨q, 2, none⟩ (.int .i64 m.li)).cell? ⟨q, 4, none⟩ = _ := (pset_else (by decide)).trans h4
  have h5 : ((w.setCell ⟨q, 1, none⟩ (.bool false)).setCell ⟨q, 2, none⟩ (.int .i64 m.li)).cell? ⟨q, 5, none⟩ = _ := (pset_else (by decide)).trans h5
  have h6 : ((w.setCell ⟨q, 1, none⟩ (.bool false)).setCell ⟨q, 2, none⟩ (.int .i64 m.li)).cell? ⟨q, 6, none⟩ = _ := (pset_else (by decide)).trans h6
  have h0 : (((w.setCell ⟨q, 1, none⟩ (.bool false)).setCell ⟨q, 2, none⟩ (.int .i64 m.li)).setCell ⟨q, 3, none⟩ (.int .i64 0)).cell? ⟨q, 0, none⟩ = _ := (pset_else (by decide)).trans h0
  have h1 : (((w.setCell ⟨q, 1, none⟩ (.bool false)).setCell ⟨q, 2, none⟩ (.int .i64 m.li)).setCell ⟨q, 3, none⟩ (.int .i64 0)).cell? ⟨q, 1, none⟩ = _ := (pset_else (by decide)).trans h1
  have h2 : (((w.setCell ⟨q, 1, none⟩ (.bool false)).setCell ⟨q, 2, none⟩ (.int .i64 m.li)).setCell ⟨q, 3, none⟩ (.int .i64 0)).cell? ⟨q, 2, none⟩ = _ := (pset_else (by decide)).trans h2
  have h3 : (((w.setCell ⟨q, 1, none⟩ (.bool false)).setCell ⟨q, 2, none⟩ (.int .i64 m.li)).setCell ⟨q, 3, none⟩ (.int .i64 0)).cell? ⟨q, 3, none⟩ = some (.int .i64 0) := pset_same h3
  have h4 : (((w.setCell ⟨q, 1, none⟩ (.bool false)).setCell ⟨q, 2, none⟩ (.int .i64 m.li)).setCell ⟨q, 3, none⟩ (.int .i64 0)).cell? ⟨q, 4, none⟩ = _ := (pset_else (by decide)).trans h4
  have h5 : (((w.setCell ⟨q, 1, none⟩ (.bool false)).setCell ⟨q, 2, none⟩ (.int .i64 m.li)).setCell ⟨q, 3, none⟩ (.int .i64 0)).cell? ⟨q, 5, none⟩ = _ := (pset_else (by decide)).trans h5
  have h6 : (((w.setCell ⟨q, 1, none⟩ (.bool false)).setCell ⟨q, 2, none⟩ (.int .i64 m.li)).setCell ⟨q, 3, none⟩ (.int .i64 0)).cell? ⟨q, 6, none⟩ = _ := (pset_else (by decide)).trans h6
  have h0 : ((((w.setCell ⟨q, 1, none⟩ (.bool false)).setCell ⟨q, 2, none⟩ (.int .i64 m.li)).setCell ⟨q, 3, none⟩ (.int .i64 0)).setCell ⟨q, 4, none⟩ (.int .i64 0)).cell? ⟨q, 0, none⟩ = _ := (pset_else (by decide)).trans h0
  have h1 : ((((w.setCell ⟨q, 1, none⟩ (.bool false)).setCell ⟨q, 2, none⟩ (.int .i64 m.li)).setCell ⟨q, 3, none⟩ (.int .i64 0)).setCell ⟨q, 4, none⟩ (.int .i64 0)).cell? ⟨q, 1, none⟩ = _ := (pset_else (by decide)).trans h1
  have h2 : ((((w.setCell ⟨q, 1, none⟩ (.bool false)).setCell ⟨q, 2, none⟩ (.int .i64 m.li)).setCell ⟨q, 3, none⟩ (.int .i64 0)).setCell ⟨q, 4, none⟩ (.int .i64 0)).cell? ⟨q, 2, none⟩ = _ := (pset_else (by decide)).trans h2
  have h3 : ((((w.setCell ⟨q, 1, none⟩ (.bool false)).setCell ⟨q, 2, none⟩ (.int .i64 m.li)).setCell ⟨q, 3, none⟩ (.int .i64 0)).setCell ⟨q, 4, none⟩ (.int .i64 0)).cell? ⟨q, 3, none⟩ = _ := (pset_else (by decide)).trans h3
  have h4 : ((((w.setCell ⟨q, 1, none⟩ (.bool false)).setCell ⟨q, 2, none⟩ (.int .i64 m.li)).setCell ⟨q, 3, none⟩ (.int .i64 0)).setCell ⟨q, 4, none⟩ (.int .i64 0)).cell? ⟨q, 4, none⟩ = some (.int .i64 0) := pset_same h4
  have h5 : ((((w.setCell ⟨q, 1, none⟩ (.bool false)).setCell ⟨q, 2, none⟩ (.int .i64 m.li)).setCell ⟨q, 3, none⟩ (.int .i64 0)).setCell ⟨q, 4, none⟩ (.int .i64 0)).cell? ⟨q, 5, none⟩ = _ := (pset_else (by decide)).trans h5
  have h6 : ((((w.setCell ⟨q, 1, none⟩ (.bool false)).setCell ⟨q, 2, none⟩ (.int .i64 m.li)).setCell ⟨q, 3, none⟩ (.int .i64 0)).setCell ⟨q, 4, none⟩ (.int .i64 0)).cell? ⟨q, 6, none⟩ = _ := (pset_else (by decide)).trans h6
  have h0 : (((((w.setCell ⟨q, 1, none⟩ (.bool false)).setCell ⟨q, 2, none⟩ (.int .i64 m.li)).setCell ⟨q, 3, none⟩ (.int .i64 0)).setCell ⟨q, 4, none⟩ (.int .i64 0)).setCell ⟨q, 5, none⟩ (.int .i64 0)).cell? ⟨q, 0, none⟩ = _ := (pset_else (by decide)).trans h0
  have h1 : (((((w.setCell ⟨q, 1, none⟩ (.bool false)).setCell ⟨q, 2, none⟩ (.int .i64 m.li)).setCell ⟨q, 3, none⟩ (.int .i64 0)).setCell ⟨q, 4, none⟩ (.int .i64 0)).setCell ⟨q, 5, none⟩ (.int .i64 0)).cell? ⟨q, 1, none⟩ = _ := (pset_else (by decide)).trans h1
  have h2 : (((((w.setCell ⟨q, 1, none⟩ (.bool false)).setCell ⟨q, 2, none⟩ (.int .i64 m.li)).setCell ⟨q, 3, none⟩ (.int .i64 0)).setCell ⟨q, 4, none⟩ (.int .i64 0)).setCell ⟨q, 5, none⟩ (.int .i64 0)).cell? ⟨q, 2, none⟩ = _ := (pset_else (by decide)).trans h2
  have h3 : (((((w.setCell ⟨q, 1, none⟩ (.bool false)).setCell ⟨q, 2, none⟩ (.int .i64 m.li)).setCell ⟨q, 3, none⟩ (.int .i64 0)).setCell ⟨q, 4, none⟩ (.int .i64 0)).setCell ⟨q, 5, none⟩ (.int .i64 0)).cell? ⟨q, 3, none⟩ = _ := (pset_else (by decide)).trans h3
  have h4 : (((((w.setCell ⟨q, 1, none⟩ (.bool false)).setCell ⟨q, 2, none⟩ (.int .i64 m.li)).setCell ⟨q, 3, none⟩ (.int .i64 0)).setCell ⟨q, 4, none⟩ (.int .i64 0)).setCell ⟨q, 5, none⟩ (.int .i64 0)).cell? ⟨q, 4, none⟩ = _ := (pset_else (by decide)).trans h4
  have h5 : (((((w.setCell ⟨q, 1, none⟩ (.bool false)).setCell ⟨q, 2, none⟩ (.int .i64 m.li)).setCell ⟨q, 3, none⟩ (.int .i64 0)).setCell ⟨q, 4, none⟩ (.int .i64 0)).setCell ⟨q, 5, none⟩ (.int .i64 0)).cell? ⟨q, 5, none⟩ = some (.int .i64 0) := pset_same h5
  have h6 : (((((w.setCell ⟨q, 1, none⟩ (.bool false)).setCell ⟨q, 2, none⟩ (.int .i64 m.li)).setCell ⟨q, 3, none⟩ (.int .i64 0)).setCell ⟨q, 4, none⟩ (.int .i64 0)).setCell ⟨q, 5, none⟩ (.int .i64 0)).cell? ⟨q, 6, none⟩ = _ := (pset_else (by decide)).trans h6
  have h0 : ((((((w.setCell ⟨q, 1, none⟩ (.bool false)).setCell ⟨q, 2, none⟩ (.int .i64 m.li)).setCell ⟨q, 3, none⟩ (.int .i64 0)).setCell ⟨q, 4, none⟩ (.int .i64 0)).setCell ⟨q, 5, none⟩ (.int .i64 0)).setCell ⟨q, 6, none⟩ (.int .i64 0)).cell? ⟨q, 0, none⟩ = _ := (pset_else (by decide)).trans h0
  have h1 : ((((((w.setCell ⟨q, 1, none⟩ (.bool false)).setCell ⟨q, 2, none⟩ (.int .i64 m.li)).setCell ⟨q, 3, none⟩ (.int .i64 0)).setCell ⟨q, 4, none⟩ (.int .i64 0)).setCell ⟨q, 5, none⟩ (.int .i64 0)).setCell ⟨q, 6, none⟩ (.int .i64 0)).cell? ⟨q, 1, none⟩ = _ := (pset_else (by decide)).trans h1
  have h2 : ((((((w.setCell ⟨q, 1, none⟩ (.bool false)).setCell ⟨q, 2, none⟩ (.int .i64 m.li)).setCell ⟨q, 3, none⟩ (.int .i64 0)).setCell ⟨q, 4, none⟩ (.int .i64 0)).setCell ⟨q, 5, none⟩ (.int .i64 0)).setCell ⟨q, 6, none⟩ (.int .i64 0)).cell? ⟨q, 2, none⟩ = _ := (pset_else (by decide)).trans h2
  have h3 : ((((((w.setCell ⟨q, 1, none⟩ (.bool false)).setCell ⟨q, 2, none⟩ (.int .i64 m.li)).setCell ⟨q, 3, none⟩ (.int .i64 0)).setCell ⟨q, 4, none⟩ (.int .i64 0)).setCell ⟨q, 5, none⟩ (.int .i64 0)).setCell ⟨q, 6, none⟩ (.int .i64 0)).cell? ⟨q, 3, none⟩ = _ := (pset_else (by decide)).trans h3
  have h4 : ((((((w.setCell ⟨q, 1, none⟩ (.bool false)).setCell ⟨q, 2, none⟩ (.int .i64 m.li)).setCell ⟨q, 3, none⟩ (.int .i64 0)).setCell ⟨q, 4, none⟩ (.int .i64 0)).setCell ⟨q, 5, none⟩ (.int .i64 0)).setCell ⟨q, 6, none⟩ (.int .i64 0)).cell? ⟨q, 4, none⟩ = _ := (pset_else (by decide)).trans h4
  have h5 : ((((((w.setCell ⟨q, 1, none⟩ (.bool false)).setCell ⟨q, 2, none⟩ (.int .i64 m.li)).setCell ⟨q, 3, none⟩ (.int .i64 0)).setCell ⟨q, 4, none⟩ (.int .i64 0)).setCell ⟨q, 5, none⟩ (.int .i64 0)).setCell ⟨q, 6, none⟩ (.int .i64 0)).cell? ⟨q, 5, none⟩ = _ := (pset_else (by decide)).trans h5
  have h6 : ((((((w.setCell ⟨q, 1, none⟩ (.bool false)).setCell ⟨q, 2, none⟩ (.int .i64 m.li)).setCell ⟨q, 3, none⟩ (.int .i64 0)).setCell ⟨q, 4, none⟩ (.int .i64 0)).setCell ⟨q, 5, none⟩ (.int .i64 0)).setCell ⟨q, 6, none⟩ (.int .i64 0)).cell? ⟨q, 6, none⟩ = some (.int .i64 0) := pset_same h6
  refine ⟨h0, h1, h2, h3, h4, h5, h6, fun i => ?_⟩
  rw [World.frozen?_setCell, World.frozen?_setCell, World.frozen?_setCell, World.frozen?_setCell, World.frozen?_setCell, World.frozen?_setCell]
  exact hf i
set_option maxHeartbeats 2000000 in
theorem fallI (m : Mi) (q base : Nat) (ad : Option Addr) (cap : Nat) (w : World) (M : MgBox w q m (.slice ad m.lg.length cap)) (O : FOwn ikEnc 8 30 base w (.slice ad m.lg.length cap) m.lg) (hq : ∀ g, (Value.slice ad m.lg.length cap).ownBlock = some g → g ≠ q) :
    Calls Try.prog 70 #[.pointer (some ⟨q, 0, none⟩)] w fun e w' => e = .returned (.tuple #[]) ∧ MgBox w' q ⟨false, m.li, 0, [], 0, 0, 0⟩ (.slice ad 0 cap) ∧ Turned q (Value.slice ad m.lg.length cap).ownBlock w w' := by
  go_enter Try.func70, Try.ntmps70
  go_wp2_with fail
  go_at_call 85
  refine (emptyI m q base ad cap w M O hq).mono ?_
  rintro e w1 ⟨rfl, M1, T1⟩
  have M2 := M1.fallen
  have T3 : Turned q (Value.slice ad m.lg.length cap).ownBlock w ((((((w1.setCell ⟨q, 1, none⟩ (.bool false)).setCell ⟨q, 2, none⟩ (.int .i64 m.li)).setCell ⟨q, 3, none⟩ (.int .i64 0)).setCell ⟨q, 4, none⟩ (.int .i64 0)).setCell ⟨q, 5, none⟩ (.int .i64 0)).setCell ⟨q, 6, none⟩ (.int .i64 0)) := ((((((T1.set 1 _).set 2 _).set 3 _).set 4 _).set 5 _).set 6 _)
  clear T1 O hq M
  obtain ⟨c0, c1, c2, c3, c4, c5, c6, fr⟩ := M1
  have f1 := fr 1
  have f2 := fr 2
  have f3 := fr 3
  have f4 := fr 4
  have f5 := fr 5
  have f6 := fr 6
  clear fr
  go_wp2
  go_end0
  exact ⟨rfl, M2, T3⟩

end Go.Proofs.Ytplejmkbdonkpaa
