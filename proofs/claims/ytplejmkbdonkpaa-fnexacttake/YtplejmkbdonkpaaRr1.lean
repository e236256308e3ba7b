/- The register at work: its number. -/
import Derived.Test.YtplejmkbdonkpaaRows
import Derived.WalkKit
import Derived.ProofKit
import Derived.OpenShut
import Derived.ShutString
import Derived.ChangeOld
import Derived.Below
import Derived.Deep.QuietTactic
import Derived.BigQuiet
import Derived.WalkSmall
import Derived.Laws.OwnMore
import Derived.WalkSpells
import Derived.WalkLawsBesides
import Derived.Deep.Cut
import Derived.Laws.LoneSync
import Derived.Conc.MuLone
import Derived.Test.YtplejmkbdonkpaaLocks
import Derived.Test.YtplejmkbdonkpaaRg1
import Derived.Test.YtplejmkbdonkpaaMg4
namespace Go.Proofs.Ytplejmkbdonkpaa
open Go.ChangeShapes Go.WideShapes Go.ChangeAt Go.RowKit
open Go.ChangeMaps (open_string shut_string)
set_option linter.unusedVariables false
set_option maxRecDepth 100000

open Go.MuLone
/-- The program's own register, at work: its number, its lock, its owner and its pair. -/
structure GBox (w : World) (q : Nat) (l : Int) (r : Rg) : Prop where
  c0 : w.cell? ⟨q, 0, none⟩ = some (.int .i64 r.ep)
  c1 : w.cell? ⟨q, 1, none⟩ = some (.int .i32 l)
  c2 : w.cell? ⟨q, 2, none⟩ = some (.int .u32 0)
  c3 : w.cell? ⟨q, 3, none⟩ = some (.int .i64 r.ow)
  c4 : w.cell? ⟨q, 4, none⟩ = some (.int .i64 r.pa)
  fr : ∀ i, w.frozen? ⟨q, i, none⟩ = false
theorem GBox.keep {w w' : World} {q : Nat} {l : Int} {r : Rg} (h : GBox w q l r) (k : w'.heap[q]? = w.heap[q]?) : GBox w' q l r :=
  ⟨(World.cell?_of_block (a := ⟨q, 0, none⟩) k).trans h.c0, (World.cell?_of_block (a := ⟨q, 1, none⟩) k).trans h.c1, (World.cell?_of_block (a := ⟨q, 2, none⟩) k).trans h.c2, (World.cell?_of_block (a := ⟨q, 3, none⟩) k).trans h.c3, (World.cell?_of_block (a := ⟨q, 4, none⟩) k).trans h.c4, fun i => (World.frozen?_of_block (a := ⟨q, i, none⟩) k).trans (h.fr i)⟩
theorem GBox.lt {w : World} {q : Nat} {l : Int} {r : Rg} (h : GBox w q l r) : q < w.heap.size := World.block_lt_of_cell? w _ h.c0
theorem GBox.below {w w' : World} {q n : Nat} {l : Int} {r : Rg} (h : GBox w q l r) (k : Below n w w') (hq : q < n) : GBox w' q l r := h.keep (k.block q hq)
theorem GBox.lock {w : World} {q : Nat} {l : Int} {r : Rg} (h : GBox w q l r) (l' : Int) : GBox (w.setCell ⟨q, 1, none⟩ (.int .i32 l')) q l' r := by
  obtain ⟨h0, h1, h2, h3, h4, hf⟩ := h
  refine ⟨(pset_else (by decide)).trans h0, pset_same h1, (pset_else (by decide)).trans h2, (pset_else (by decide)).trans h3, (pset_else (by decide)).trans h4, fun i => ?_⟩
  rw [World.frozen?_setCell]; exact hf i
theorem GBox.setEp {w : World} {q : Nat} {l : Int} {r : Rg} (h : GBox w q l r) (x : Int) : GBox (w.setCell ⟨q, 0, none⟩ (.int .i64 x)) q l ⟨x, r.ow, r.pa⟩ := by
  obtain ⟨h0, h1, h2, h3, h4, hf⟩ := h
  refine ⟨pset_same h0, (pset_else (by decide)).trans h1, (pset_else (by decide)).trans h2, (pset_else (by decide)).trans h3, (pset_else (by decide)).trans h4, fun i => ?_⟩
  rw [World.frozen?_setCell]; exact hf i
theorem GBox.setOw {w : World} {q : Nat} {l : Int} {r : Rg} (h : GBox w q l r) (x : Int) : GBox (w.setCell ⟨q, 3, none⟩ (.int .i64 x)) q l ⟨r.ep, x, r.pa⟩ := by
  obtain ⟨h0, h1, h2, h3, h4, hf⟩ := h
  refine ⟨(pset_else (by decide)).trans h0, (pset_else (by decide)).trans h1, (pset_else (by decide)).trans h2, pset_same h3, (pset_else (by decide)).trans h4, fun i => ?_⟩
  rw [World.frozen?_setCell]; exact hf i
theorem GBox.setPa {w : World} {q : Nat} {l : Int} {r : Rg} (h : GBox w q l r) (x : Int) : GBox (w.setCell ⟨q, 4, none⟩ (.int .i64 x)) q l ⟨r.ep, r.ow, x⟩ := by
  obtain ⟨h0, h1, h2, h3, h4, hf⟩ := h
  refine ⟨(pset_else (by decide)).trans h0, (pset_else (by decide)).trans h1, (pset_else (by decide)).trans h2, (pset_else (by decide)).trans h3, pset_same h4, fun i => ?_⟩
  rw [World.frozen?_setCell]; exact hf i
theorem loadG (x : Int) (q : Nat) (w : World) (h : w.cell? ⟨q, 0, none⟩ = some (.int .i64 x)) :
    Calls Try.prog 78 #[.pointer (some ⟨q, 0, none⟩)] w fun e w' => e = .returned (.int .i64 x) ∧ w' = w := by
  have hl := run_call_load (P := Try.prog) Try.func93 (by kernel_rfl) (by kernel_rfl) (by kernel_rfl) .i64 (by kernel_rfl) h
  go_enter Try.func78, Try.ntmps78
  go_wp2
  go_ret
  exact ⟨rfl, rfl⟩
theorem storeG (x : Int) (u : Value) (q : Nat) (w : World) (h : w.cell? ⟨q, 0, none⟩ = some u) (hz : w.frozen? ⟨q, 0, none⟩ = false) :
    Calls Try.prog 73 #[.pointer (some ⟨q, 0, none⟩), .int .i64 x] w fun e w' => e = .returned (.tuple #[]) ∧ w' = w.setCell ⟨q, 0, none⟩ (.int .i64 x) := by
  have hl := run_call_store (P := Try.prog) Try.func88 (by kernel_rfl) (by kernel_rfl) (by kernel_rfl) (by kernel_rfl) (k := .i64) (y := x) h hz
  go_enter Try.func73, Try.ntmps73
  go_wp2
  exact bodyPost_end (results_none rfl _ _ _) rfl ⟨rfl, rfl⟩
theorem addG (x : Int) (q : Nat) (w : World) (h : w.cell? ⟨q, 0, none⟩ = some (.int .i64 x)) (hz : w.frozen? ⟨q, 0, none⟩ = false) (h1 : 1 ≤ x) (h2 : x ≤ 100000) :
    Calls Try.prog 77 #[.pointer (some ⟨q, 0, none⟩), .int .i64 1] w fun e w' => e = .returned (.int .i64 (x + 1)) ∧ w' = w.setCell ⟨q, 0, none⟩ (.int .i64 (x + 1)) := by
  have hs : (Op.intArith .add .i64 x 1).run Try.prog w = .ok (.int .i64 (x + 1)) w := by
    have hw : IntKind.i64.wrap (x + 1) = x + 1 := by
      first | (simp [IntKind.wrap]; omega) | (have hz : wrap64 (x + 1) = x + 1 := by { unfold wrap64; omega }; exact hz) | (simp [IntKind.wrap, IntKind.bits, IntKind.signed]; omega)
    simp [go_sem, hw]
  have hl := run_call_add (P := Try.prog) Try.func92 (by kernel_rfl) (by kernel_rfl) (by kernel_rfl) .i64 (by kernel_rfl) h hz hs
  go_enter Try.func77, Try.ntmps77
  go_wp2
  go_ret
  exact ⟨rfl, rfl⟩
theorem epochI (x : Int) (q : Nat) (w : World) (h : w.cell? ⟨q, 0, none⟩ = some (.int .i64 x)) :
    Calls Try.prog 55 #[.pointer (some ⟨q, 0, none⟩)] w fun e w' => e = .returned (.int .i64 x) ∧ w' = w := by
  go_enter Try.func55, Try.ntmps55
  go_wp2_with fail
  go_at_call 78
  refine (loadG x q w h).mono ?_
  rintro e w' ⟨rfl, rfl⟩
  go_wp2
  go_ret
  exact ⟨rfl, rfl⟩


end Go.Proofs.Ytplejmkbdonkpaa
