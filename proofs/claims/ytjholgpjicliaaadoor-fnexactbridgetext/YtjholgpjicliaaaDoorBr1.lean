/- Bridges: how they come in, copied, compared. -/
import Derived.Test.YtjholgpjicliaaaDoorRows
import Derived.WalkKit
import Derived.ProofKit
import Derived.OpenShut
import Derived.ShutString
import Derived.ChangeOld
import Derived.Below
import Derived.Deep.QuietTactic
import Derived.BigQuiet
import Derived.WalkSmall
import Derived.Laws.OwnMore
import Derived.WalkSpells
import Derived.WalkLawsBesides
import Derived.Lib.SmallJoins
import Derived.Test.YtjholgpjicliaaaDoorPts2
namespace Go.Proofs.YtjholgpjicliaaaDoor
open Go.ChangeShapes Go.WideShapes Go.ChangeAt Go.RowKit
open Go.ChangeMaps (open_string shut_string)
set_option linter.unusedVariables false
set_option maxRecDepth 100000

/-- A bridge's box: its number, and the list of its ports. -/
structure BrAt (w : World) (q : Nat) (id : Int) (v : Value) : Prop where
  c0 : w.cell? ⟨q, 0, none⟩ = some (.int .i64 id)
  c1 : w.cell? ⟨q, 1, none⟩ = some v
theorem BrAt.keep {w w' : World} {q : Nat} {id : Int} {v : Value} (h : BrAt w q id v) (k : w'.heap[q]? = w.heap[q]?) : BrAt w' q id v :=
  ⟨(World.cell?_of_block (a := ⟨q, 0, none⟩) k).trans h.c0, (World.cell?_of_block (a := ⟨q, 1, none⟩) k).trans h.c1⟩
theorem BrAt.below {w w' : World} {q n : Nat} {id : Int} {v : Value} (h : BrAt w q id v) (k : Below n w w') (hq : q < n) : BrAt w' q id v := h.keep (k.block q hq)
theorem BrAt.lt {w : World} {q : Nat} {id : Int} {v : Value} (h : BrAt w q id v) : q < w.heap.size := World.block_lt_of_cell? w _ h.c0
theorem BrAt.new (w : World) (t : TypeId) (id : Int) (v : Value) : BrAt (w.alloc (Obj.cells #[.int .i64 id, v] t)) w.heap.size id v := by
  refine ⟨?_, ?_⟩ <;> simp [go_sem]
theorem BrAt.alloc {w : World} {q : Nat} {id : Int} {v : Value} (h : BrAt w q id v) (o : Obj) : BrAt (w.alloc o) q id v := h.keep (Below.heap_alloc w o q h.lt)
theorem below_new {w : World} (o : Obj) : Below w.heap.size w (w.alloc o) := (Below.refl _ _).alloc (Nat.le_refl _) _
/-- A bridge's box that may be written. -/
structure BBox (w : World) (q : Nat) (id : Int) (v : Value) : Prop where
  at_ : BrAt w q id v
  fr : ∀ i, w.frozen? ⟨q, i, none⟩ = false
theorem BBox.keep {w w' : World} {q : Nat} {id : Int} {v : Value} (h : BBox w q id v) (k : w'.heap[q]? = w.heap[q]?) : BBox w' q id v :=
  ⟨h.at_.keep k, fun i => (World.frozen?_of_block (a := ⟨q, i, none⟩) k).trans (h.fr i)⟩
theorem BBox.lt {w : World} {q : Nat} {id : Int} {v : Value} (h : BBox w q id v) : q < w.heap.size := h.at_.lt
theorem BBox.below {w w' : World} {q n : Nat} {id : Int} {v : Value} (h : BBox w q id v) (k : Below n w w') (hq : q < n) : BBox w' q id v := h.keep (k.block q hq)
theorem BBox.new (w : World) (t : TypeId) (id : Int) (v : Value) : BBox (w.alloc (Obj.cells #[.int .i64 id, v] t)) w.heap.size id v := ⟨BrAt.new w t id v, fun i => by simp [go_sem]⟩
theorem BBox.put {w : World} {q : Nat} {id : Int} {v : Value} (h : BBox w q id v) (id' : Int) (v' : Value) : BBox ((w.setCell ⟨q, 0, none⟩ (.int .i64 id')).setCell ⟨q, 1, none⟩ v') q id' v' := by
  have e1 : (w.setCell ⟨q, 0, none⟩ (.int .i64 id')).cell? ⟨q, 1, none⟩ = some v := (pset_else (by decide)).trans h.at_.c1
  refine ⟨⟨(pset_else (by decide)).trans (pset_same h.at_.c0), pset_same e1⟩, fun i => ?_⟩
  rw [World.frozen?_setCell, World.frozen?_setCell]; exact h.fr i
/-- What is known of a bridge that comes in. -/
structure BrIn (w : World) (ad : Option Addr) (cap : Nat) (L : List Pt) : Prop where
  lm : L.length ≤ maxLen
  hv : FView ptEnc w ad L
  hn : ad = none → cap = 0
set_option maxRecDepth 100000 in
theorem brIn_open {H : Type} {enc : TypeId × Value → H} {w : World} {r : Reach} {b0 : Nat} {v : Value} {d : DataW H} {p : List MemPlace} (hv : Value.okWide Tryd.prog w r b0 48 v) (h : DataW.Trod enc Tryd.prog w 0 (fun _ => true) true 48 v d p) :
    ∃ id ad cap L, v = .agg #[.int .i64 id, .slice ad (List.length L) cap] ∧ (Lit.int .i64 id).wf = true ∧ BrIn w ad cap L := by
  obtain ⟨v0, v1, y0, y1, n, rfl, _, _, h0, h1⟩ := Go.Joins.open_agg2 Tryd.underlying48 (by kernel_rfl) (by kernel_rfl) hv h
  obtain ⟨z0, e0, _, w0⟩ := DataW.trod_int Tryd.underlying3 h0
  simp at e0
  subst e0
  obtain ⟨ad, cap, L, rfl, m, hV, hn⟩ := ptRow_open h1
  exact ⟨z0, ad, cap, L, rfl, w0, m, hV, hn⟩
theorem brSz (id : Int) (ad : Option Addr) (len cap : Nat) (left : Int) (w : World) (h0 : 0 ≤ left) (h1 : left ≤ 1048576) (hm : len ≤ maxLen) :
    Calls Tryd.prog 16 #[.agg #[.int .i64 id, .slice ad len cap], .int .i64 left] w fun e w' => e = .returned (.int .i64 (if (len : Int) ≤ left then left - len else -1)) ∧ Below w.heap.size w w' := by
  have B0 := below_new (w := w) (Obj.cells #[.int .i64 id, .slice ad len cap] 48)
  by_cases h : (len : Int) ≤ left
  · rw [if_pos h]
    have h2 : 0 ≤ left - (len : Int) := by omega
    go_enter Tryd.func16, Tryd.ntmps16
    go_wp2_with fail
    go_at_call 30
    refine (ptSz ad len cap left _ h0 h1 hm).mono ?_
    rintro e w1 ⟨rfl, rfl⟩
    rw [if_pos h]
    go_wp2
    go_ret
    exact ⟨rfl, B0⟩
  · rw [if_neg h]
    go_enter Tryd.func16, Tryd.ntmps16
    go_wp2_with fail
    go_at_call 30
    refine (ptSz ad len cap left _ h0 h1 hm).mono ?_
    rintro e w1 ⟨rfl, rfl⟩
    rw [if_neg (by omega)]
    go_wp2
    go_ret
    exact ⟨rfl, B0⟩
/-- A bridge that a call made: its list is its own. -/
def BrNew (base : Nat) (w : World) (id : Int) (L : List Pt) (v : Value) : Prop := ∃ ad cap, v = .agg #[.int .i64 id, .slice ad L.length cap] ∧ FOwn ptEnc 11 43 base w (.slice ad L.length cap) L
set_option maxHeartbeats 1000000 in
theorem brTo (id : Int) (ad : Option Addr) (cap : Nat) (L : List Pt) (w : World) (hv : FView ptEnc w ad L) (hl : L.length ≤ 1048576) :
    Calls Tryd.prog 18 #[.agg #[.int .i64 id, .slice ad L.length cap]] w fun e w' => ∃ g, e = .returned (.agg #[.int .i64 id, .slice (some ⟨g, 0, none⟩) L.length L.length]) ∧ w.heap.size ≤ g ∧ g < w'.heap.size ∧ FOwn ptEnc 11 43 w.heap.size w' (.slice (some ⟨g, 0, none⟩) L.length L.length) L ∧ Below w.heap.size w w' := by
  have hB := hv.lt ptEnc_len (by omega)
  obtain ⟨y, hy⟩ : ∃ y, y = ((w.alloc (Obj.cells #[.int .i64 id, .slice ad L.length cap] 48)).alloc (Obj.cells #[.int .i64 0, .slice none 0 0] 53)).alloc (Obj.cells #[.int .i64 id, .slice none 0 0] 53) := ⟨_, rfl⟩
  have B0 : Below w.heap.size w y := by rw [hy]; exact (((Below.refl _ _).alloc (Nat.le_refl _) _).alloc (by simp) _).alloc (by simp; omega) _
  have A0 : BrAt y w.heap.size id (.slice ad L.length cap) := by rw [hy]; constructor <;> simp [go_sem]
  have A1 : BrAt y (w.heap.size + 1) 0 (.slice none 0 0) := by rw [hy]; constructor <;> simp [go_sem]
  have A2 : BrAt y (w.heap.size + 1 + 1) id (.slice none 0 0) := by rw [hy]; constructor <;> simp [go_sem]
  have F1 : ∀ i, y.frozen? ⟨w.heap.size + 1, i, none⟩ = false := fun i => by rw [hy]; simp [go_sem]
  have F2 : ∀ i, y.frozen? ⟨w.heap.size + 1 + 1, i, none⟩ = false := fun i => by rw [hy]; simp [go_sem]
  have S0 := A2.lt
  go_enter Tryd.func18, Tryd.ntmps18
  go_wp2_with fail
  go_at_call 31
  rw [← hy]
  clear hy
  refine (ptToS ad cap L y (hv.below B0 hB) hl).mono ?_
  rintro e w1 ⟨rfl, O1, k1⟩
  generalize hg : y.heap.size = g at O1 k1 S0 ⊢
  have hgs : g < w1.heap.size := (O1.lt g rfl).2
  have B1 := B0.trans (k1.mono (by omega))
  have A1 := A1.below k1 (by omega)
  have A2 := A2.below k1 (by omega)
  have F1 : ∀ i, w1.frozen? ⟨w.heap.size + 1, i, none⟩ = false := fun i => (World.frozen?_of_block (a := ⟨w.heap.size + 1, i, none⟩) (k1.block (w.heap.size + 1) (by omega))).trans (F1 i)
  have F2 : ∀ i, w1.frozen? ⟨w.heap.size + 1 + 1, i, none⟩ = false := fun i => (World.frozen?_of_block (a := ⟨w.heap.size + 1 + 1, i, none⟩) (k1.block (w.heap.size + 1 + 1) (by omega))).trans (F2 i)
  have hg' : w.heap.size + 1 + 1 < g := S0
  have O1 : FOwn ptEnc 11 43 w.heap.size w1 (.slice (some ⟨g, 0, none⟩) L.length L.length) L := O1.base (by omega)
  clear hg k1 B0 hv hB
  obtain ⟨a0, a1⟩ := A1
  obtain ⟨c0, c1⟩ := A2
  have f10 := F1 0
  have f11 := F1 1
  have f21 := F2 1
  have B3 : Below w.heap.size w (((w1.setCell ⟨w.heap.size + 1 + 1, 1, none⟩ (.slice (some ⟨g, 0, none⟩) L.length L.length)).setCell ⟨w.heap.size + 1, 0, none⟩ (.int .i64 id)).setCell ⟨w.heap.size + 1, 1, none⟩ (.slice (some ⟨g, 0, none⟩) L.length L.length)) := ((B1.setCell (by show _ ≤ w.heap.size + 1 + 1; omega) _).setCell (by show _ ≤ w.heap.size + 1; omega) _).setCell (by show _ ≤ w.heap.size + 1; omega) _
  have O3 : FOwn ptEnc 11 43 w.heap.size (((w1.setCell ⟨w.heap.size + 1 + 1, 1, none⟩ (.slice (some ⟨g, 0, none⟩) L.length L.length)).setCell ⟨w.heap.size + 1, 0, none⟩ (.int .i64 id)).setCell ⟨w.heap.size + 1, 1, none⟩ (.slice (some ⟨g, 0, none⟩) L.length L.length)) (.slice (some ⟨g, 0, none⟩) L.length L.length) L := O1.keep fun g' e => by
    obtain rfl : g = g' := by simpa [Value.ownBlock] using e
    rw [Below.heap_setCell _ _ _ _ (by show g ≠ w.heap.size + 1; omega), Below.heap_setCell _ _ _ _ (by show g ≠ w.heap.size + 1; omega), Below.heap_setCell _ _ _ _ (by show g ≠ w.heap.size + 1 + 1; omega)]
  go_wp2
  refine bodyPost_ret (v := .agg #[.int .i64 id, .slice (some ⟨g, 0, none⟩) L.length L.length]) (by simp [results, Tryd.results18, go_sem, *]) rfl ⟨g, rfl, by omega, by simpa using hgs, O3, B3⟩
theorem brEq (id : Int) (ad ad' : Option Addr) (cap cap' : Nat) (L : List Pt) (w : World) (hv : FView ptEnc w ad L) (hv' : FView ptEnc w ad' L) (hl : L.length ≤ 1048576) :
    Calls Tryd.prog 20 #[.agg #[.int .i64 id, .slice ad L.length cap], .agg #[.int .i64 id, .slice ad' L.length cap']] w fun e w' => e = .returned (.bool true) ∧ Below w.heap.size w w' := by
  have hB := hv.lt ptEnc_len (by omega)
  have hB' := hv'.lt ptEnc_len (by omega)
  obtain ⟨y, hy⟩ : ∃ y, y = (w.alloc (Obj.cells #[.int .i64 id, .slice ad L.length cap] 53)).alloc (Obj.cells #[.int .i64 id, .slice ad' L.length cap'] 53) := ⟨_, rfl⟩
  have B0 : Below w.heap.size w y := by rw [hy]; exact ((Below.refl _ _).alloc (Nat.le_refl _) _).alloc (by simp) _
  go_enter Tryd.func20, Tryd.ntmps20
  go_wp2_with fail
  go_at_call 32
  rw [← hy]
  clear hy
  refine (ptEqS ad ad' cap cap' L y (hv.below B0 hB) (hv'.below B0 hB') hl).mono ?_
  rintro e w1 ⟨rfl, k1⟩
  have B1 := B0.trans (k1.mono B0.size)
  clear k1 B0
  go_wp2
  go_ret
  exact ⟨rfl, B1⟩

end Go.Proofs.YtjholgpjicliaaaDoor
