/- Cells that are read and written. How a claim comes in. Ports: copied, compared. Bits. Contracts of the small functions over bytes that the laws call. -/
import Derived.Test.YtemibefbkjpnaaaGreatRows
import Derived.WalkKit
import Derived.ProofKit
import Derived.OpenShut
import Derived.ShutString
import Derived.ChangeOld
import Derived.Below
import Derived.Deep.QuietTactic
import Derived.BigQuiet
import Derived.WalkSmall
import Derived.Laws.OwnMore
import Derived.WalkSpells
import Derived.WalkLawsBesides
import Derived.Lib.SmallJoins
import Derived.Test.YtemibefbkjpnaaaGreatKVec1
import Derived.Deep.Cut
import Derived.Test.YtemibefbkjpnaaaGreatKVec2
namespace Go.Proofs.YtemibefbkjpnaaaGreat
open Go.ChangeShapes Go.WideShapes Go.ChangeAt Go.RowKit
open Go.ChangeMaps (open_string shut_string)
set_option linter.unusedVariables false
set_option maxRecDepth 100000

/-- The slice at 'ad' of 'len' bytes reads, in the world w, as the numbers f 0, f 1, .. -/
def View (w : World) (ad : Option Addr) (len : Nat) (f : Nat → Int) : Prop :=
  0 < len → ∃ b off, ad = some ⟨b, off, none⟩ ∧ ∀ i, i < len → w.cell? ⟨b, off + i, none⟩ = some (.int .u8 (f i))
/-- Its cells may be written. -/
def Room (w : World) (ad : Option Addr) (len : Nat) : Prop :=
  0 < len → ∃ b off, ad = some ⟨b, off, none⟩ ∧ ∀ i, i < len → (∃ u, w.cell? ⟨b, off + i, none⟩ = some u) ∧ w.frozen? ⟨b, off + i, none⟩ = false

theorem View.mk0 {w : World} {b len : Nat} {f : Nat → Int} (h : ∀ i, i < len → w.cell? ⟨b, i, none⟩ = some (.int .u8 (f i))) : View w (some ⟨b, 0, none⟩) len f :=
  fun _ => ⟨b, 0, rfl, fun i hi => by rw [Nat.zero_add]; exact h i hi⟩
theorem View.carry {w w' : World} {ad : Option Addr} {len : Nat} {f : Nat → Int} (h : View w ad len f) (hb : ∀ a, ad = some a → 0 < len → w'.heap[a.block]? = w.heap[a.block]?) : View w' ad len f :=
  fun hp => by
    obtain ⟨b, off, e, hc⟩ := h hp
    exact ⟨b, off, e, fun i hi => (World.cell?_of_block (a := ⟨b, off + i, none⟩) (hb ⟨b, off, none⟩ e hp)).trans (hc i hi)⟩
theorem Room.carry {w w' : World} {ad : Option Addr} {len : Nat} (h : Room w ad len) (hb : ∀ a, ad = some a → 0 < len → w'.heap[a.block]? = w.heap[a.block]?) : Room w' ad len :=
  fun hp => by
    obtain ⟨b, off, e, hc⟩ := h hp
    refine ⟨b, off, e, fun i hi => ⟨?_, ?_⟩⟩
    · obtain ⟨u, hu⟩ := (hc i hi).1
      exact ⟨u, (World.cell?_of_block (a := ⟨b, off + i, none⟩) (hb ⟨b, off, none⟩ e hp)).trans hu⟩
    · exact (World.frozen?_of_block (a := ⟨b, off + i, none⟩) (hb ⟨b, off, none⟩ e hp)).trans (hc i hi).2
theorem View.congr {w : World} {ad : Option Addr} {len : Nat} {f g : Nat → Int} (h : View w ad len f) (e : ∀ i, i < len → f i = g i) : View w ad len g :=
  fun hp => by
    obtain ⟨b, off, e', hc⟩ := h hp
    exact ⟨b, off, e', fun i hi => by rw [← e i hi]; exact hc i hi⟩
theorem cell_set_same {w : World} {b j : Nat} {v : Value} (h : ∃ u, w.cell? ⟨b, j, none⟩ = some u) : (w.setCell ⟨b, j, none⟩ v).cell? ⟨b, j, none⟩ = some v := by
  obtain ⟨u, hu⟩ := h
  exact World.cell?_setCell_same _ _ _ hu
theorem cell_set_ne {w : World} {b j i : Nat} {v : Value} (h : i ≠ j) : (w.setCell ⟨b, j, none⟩ v).cell? ⟨b, i, none⟩ = w.cell? ⟨b, i, none⟩ :=
  World.cell?_setCell_other _ _ _ _ (fun e => h (by injection e with _ e2; exact e2.symm))
/-- What a slice of bytes that the call itself owns is good for. -/
theorem own_view {w : World} {base E n : Nat} {v : Value} {L : List Int} (h : w.ownsRow base E 1 v n (L.map (Value.int .u8))) :
    n = L.length ∧ ∃ ad cap, v = .slice ad n cap ∧ View w ad n (fun i => L.getD i 0) ∧ Room w ad n ∧ ∀ a, ad = some a → base ≤ a.block ∧ a.block < w.heap.size := by
  have hn : n = L.length := by have := h.1; simp at this; omega
  refine ⟨hn, ?_⟩
  rcases h.2 with ⟨rfl, h0⟩ | ⟨g, cap, cur, rfl, hb, hg, hnc, hcm, hcs, htk⟩
  · exact ⟨none, 0, by rw [h0], fun hp => absurd hp (by omega), fun hp => absurd hp (by omega), fun a e => by simp at e⟩
  · have hc : ∀ i, i < n → w.cell? ⟨g, i, none⟩ = some (.int .u8 (L.getD i 0)) := fun i hi => by
      rw [h.cellAt i (by omega), List.getElem?_map, List.getElem?_eq_getElem (by omega)]
      simp [List.getD, List.getElem?_eq_getElem (by omega : i < L.length)]
    refine ⟨some ⟨g, 0, none⟩, cap, rfl, View.mk0 hc, fun _ => ⟨g, 0, rfl, fun i hi => ?_⟩, fun a e => ?_⟩
    · rw [Nat.zero_add]
      exact ⟨⟨_, hc i hi⟩, h.frozenAt i⟩
    · obtain rfl : (⟨g, 0, none⟩ : Addr) = a := by simpa using e
      exact ⟨hb, (Array.getElem?_eq_some_iff.1 hg).1⟩

theorem below_box (w : World) (o : Obj) : Below w.heap.size w (w.alloc o) := (Below.refl _ _).alloc (Nat.le_refl _) _
theorem size_box (w : World) (o : Obj) : w.heap.size < (w.alloc o).heap.size := by simp

end Go.Proofs.YtemibefbkjpnaaaGreat
namespace Go.Proofs.YtemibefbkjpnaaaGreat
open Go.ChangeShapes Go.WideShapes Go.ChangeAt Go.RowKit
open Go.ChangeMaps (open_string shut_string)
set_option linter.unusedVariables false
set_option maxRecDepth 100000

/-- The four numbers of a claim fit. -/
structure VecWf (r c b p : Int) : Prop where
  wr : (Lit.int .i64 r).wf = true
  wc : (Lit.int .i64 c).wf = true
  wb : (Lit.int .i64 b).wf = true
  wp : (Lit.int .i64 p).wf = true
theorem vecIn_open {H : Type} {enc : TypeId × Value → H} {w : World} {r : Reach} {b0 : Nat} {v : Value} {d : DataW H} {p : List MemPlace} (hv : Value.okWide Tryz.prog w r b0 209 v) (h : DataW.Trod enc Tryz.prog w 0 (fun _ => true) true 209 v d p) :
    ∃ r c b q, v = .agg #[.int .i64 r, .int .i64 c, .int .i64 b, .int .i64 q] ∧ VecWf r c b q := by
  obtain ⟨v0, v1, v2, v3, y0, y1, y2, y3, n, rfl, _, _, h0, h1, h2, h3⟩ := Go.Joins.open_agg4 Tryz.underlying209 (by kernel_rfl) (by kernel_rfl) hv h
  obtain ⟨a, ha, _, wa⟩ := DataW.trod_int Tryz.underlying3 h0
  obtain ⟨b, hb, _, wb⟩ := DataW.trod_int Tryz.underlying3 h1
  obtain ⟨c, hc, _, wc⟩ := DataW.trod_int Tryz.underlying3 h2
  obtain ⟨q, hq, _, wq⟩ := DataW.trod_int Tryz.underlying3 h3
  simp at ha hb hc hq
  subst ha hb hc hq
  exact ⟨a, b, c, q, rfl, wa, wb, wc, wq⟩

/-- What a claim's four cells hold, in a world. -/
def VecAt (w : World) (q : Nat) (r c b p : Int) : Prop :=
  w.cell? ⟨q, 0, none⟩ = some (.int .i64 r) ∧ w.cell? ⟨q, 1, none⟩ = some (.int .i64 c) ∧ w.cell? ⟨q, 2, none⟩ = some (.int .i64 b) ∧ w.cell? ⟨q, 3, none⟩ = some (.int .i64 p)
theorem VecAt.below {w w' : World} {q n : Nat} {r c b p : Int} (h : VecAt w q r c b p) (k : Below n w w') (hq : q < n) : VecAt w' q r c b p :=
  ⟨(k.cell (p := ⟨q, 0, none⟩) hq).trans h.1, (k.cell (p := ⟨q, 1, none⟩) hq).trans h.2.1, (k.cell (p := ⟨q, 2, none⟩) hq).trans h.2.2.1, (k.cell (p := ⟨q, 3, none⟩) hq).trans h.2.2.2⟩
theorem vecAt_box (w : World) (t : TypeId) (r c b p : Int) : VecAt (w.alloc (Obj.cells #[.int .i64 r, .int .i64 c, .int .i64 b, .int .i64 p] t)) w.heap.size r c b p := by
  refine ⟨?_, ?_, ?_, ?_⟩ <;> simp [go_sem]

end Go.Proofs.YtemibefbkjpnaaaGreat
namespace Go.Proofs.YtemibefbkjpnaaaGreat
open Go.ChangeShapes Go.WideShapes Go.ChangeAt Go.RowKit
open Go.ChangeMaps (open_string shut_string)
set_option linter.unusedVariables false
set_option maxRecDepth 100000

/-- A port: eleven cells. -/
structure Pt where
  up : Bool
  has : Bool
  r : Int
  c : Int
  b : Int
  p : Int
  h : Int
  l : Int
  ro : Int
  wa : Int
  op : Bool
/-- What a port's cells hold, in a world. -/
structure PtAt (w : World) (q : Nat) (x : Pt) : Prop where
  c0 : w.cell? ⟨q, 0, none⟩ = some (.bool x.up)
  c1 : w.cell? ⟨q, 1, none⟩ = some (.bool x.has)
  c2 : w.cell? ⟨q, 2, none⟩ = some (.int .i64 x.r)
  c3 : w.cell? ⟨q, 3, none⟩ = some (.int .i64 x.c)
  c4 : w.cell? ⟨q, 4, none⟩ = some (.int .i64 x.b)
  c5 : w.cell? ⟨q, 5, none⟩ = some (.int .i64 x.p)
  c6 : w.cell? ⟨q, 6, none⟩ = some (.int .i64 x.h)
  c7 : w.cell? ⟨q, 7, none⟩ = some (.int .i64 x.l)
  c8 : w.cell? ⟨q, 8, none⟩ = some (.int .i64 x.ro)
  c9 : w.cell? ⟨q, 9, none⟩ = some (.int .i64 x.wa)
  c10 : w.cell? ⟨q, 10, none⟩ = some (.bool x.op)
theorem PtAt.keep {w w' : World} {q : Nat} {x : Pt} (h : PtAt w q x) (k : w'.heap[q]? = w.heap[q]?) : PtAt w' q x :=
  ⟨(World.cell?_of_block (a := ⟨q, 0, none⟩) k).trans h.c0, (World.cell?_of_block (a := ⟨q, 1, none⟩) k).trans h.c1, (World.cell?_of_block (a := ⟨q, 2, none⟩) k).trans h.c2, (World.cell?_of_block (a := ⟨q, 3, none⟩) k).trans h.c3, (World.cell?_of_block (a := ⟨q, 4, none⟩) k).trans h.c4, (World.cell?_of_block (a := ⟨q, 5, none⟩) k).trans h.c5, (World.cell?_of_block (a := ⟨q, 6, none⟩) k).trans h.c6, (World.cell?_of_block (a := ⟨q, 7, none⟩) k).trans h.c7, (World.cell?_of_block (a := ⟨q, 8, none⟩) k).trans h.c8, (World.cell?_of_block (a := ⟨q, 9, none⟩) k).trans h.c9, (World.cell?_of_block (a := ⟨q, 10, none⟩) k).trans h.c10⟩
theorem PtAt.below {w w' : World} {q n : Nat} {x : Pt} (h : PtAt w q x) (k : Below n w w') (hq : q < n) : PtAt w' q x := h.keep (k.block q hq)
theorem PtAt.lt {w : World} {q : Nat} {x : Pt} (h : PtAt w q x) : q < w.heap.size := World.block_lt_of_cell? w _ h.c0
theorem ptAt_box (w : World) (t : TypeId) (x : Pt) : PtAt (w.alloc (Obj.cells #[.bool x.up, .bool x.has, .int .i64 x.r, .int .i64 x.c, .int .i64 x.b, .int .i64 x.p, .int .i64 x.h, .int .i64 x.l, .int .i64 x.ro, .int .i64 x.wa, .bool x.op] t)) w.heap.size x := by
  refine ⟨?_, ?_, ?_, ?_, ?_, ?_, ?_, ?_, ?_, ?_, ?_⟩ <;> simp [go_sem]
/-- A port's box: what its cells hold, and that they may be written. -/
structure PBox (w : World) (q : Nat) (x : Pt) : Prop where
  at_ : PtAt w q x
  fr : ∀ i, w.frozen? ⟨q, i, none⟩ = false
theorem PBox.keep {w w' : World} {q : Nat} {x : Pt} (h : PBox w q x) (k : w'.heap[q]? = w.heap[q]?) : PBox w' q x :=
  ⟨h.at_.keep k, fun i => (World.frozen?_of_block (a := ⟨q, i, none⟩) k).trans (h.fr i)⟩
theorem PBox.lt {w : World} {q : Nat} {x : Pt} (h : PBox w q x) : q < w.heap.size := h.at_.lt
theorem PBox.new (w : World) (t : TypeId) (x : Pt) : PBox (w.alloc (Obj.cells #[.bool x.up, .bool x.has, .int .i64 x.r, .int .i64 x.c, .int .i64 x.b, .int .i64 x.p, .int .i64 x.h, .int .i64 x.l, .int .i64 x.ro, .int .i64 x.wa, .bool x.op] t)) w.heap.size x := ⟨ptAt_box w t x, fun i => by simp [go_sem]⟩
theorem PBox.alloc {w : World} {q : Nat} {x : Pt} (h : PBox w q x) (o : Obj) : PBox (w.alloc o) q x := h.keep (Below.heap_alloc w o q h.lt)
theorem PBox.grown {w w' : World} {q cb : Nat} {x : Pt} (h : PBox w q x) (g : w.grownBy w' (some cb)) (hne : q ≠ cb) : PBox w' q x := h.keep (g.block q h.lt (by simpa using hne))
theorem PBox.below {w w' : World} {q n : Nat} {x : Pt} (h : PBox w q x) (g : Below n w w') (hq : q < n) : PBox w' q x := h.keep (g.block q hq)
theorem PBox.other {w : World} {q q' i : Nat} {x : Pt} {v : Value} (h : PBox w q x) (hne : q ≠ q') : PBox (w.setCell ⟨q', i, none⟩ v) q x := h.keep (Below.heap_setCell _ _ _ _ hne)
theorem PtAt.other {w : World} {q q' i : Nat} {x : Pt} {v : Value} (h : PtAt w q x) (hne : q ≠ q') : PtAt (w.setCell ⟨q', i, none⟩ v) q x := h.keep (Below.heap_setCell _ _ _ _ hne)
theorem pset_same {w : World} {q i : Nat} {u v : Value} (h : w.cell? ⟨q, i, none⟩ = some u) : (w.setCell ⟨q, i, none⟩ v).cell? ⟨q, i, none⟩ = some v := cell_set_same ⟨_, h⟩
theorem pset_else {w : World} {q i j : Nat} {v : Value} (h : i ≠ j) : (w.setCell ⟨q, i, none⟩ v).cell? ⟨q, j, none⟩ = w.cell? ⟨q, j, none⟩ := cell_set_ne (Ne.symm h)
theorem PBox.set0 {w : World} {q : Nat} {x : Pt} (z : Bool) (h : PBox w q x) : PBox (w.setCell ⟨q, 0, none⟩ (.bool z)) q { x with up := z } :=
  ⟨⟨pset_same h.at_.c0, (pset_else (by decide)).trans h.at_.c1, (pset_else (by decide)).trans h.at_.c2, (pset_else (by decide)).trans h.at_.c3, (pset_else (by decide)).trans h.at_.c4, (pset_else (by decide)).trans h.at_.c5, (pset_else (by decide)).trans h.at_.c6, (pset_else (by decide)).trans h.at_.c7, (pset_else (by decide)).trans h.at_.c8, (pset_else (by decide)).trans h.at_.c9, (pset_else (by decide)).trans h.at_.c10⟩, fun i => by rw [World.frozen?_setCell]; exact h.fr i⟩
theorem PBox.set1 {w : World} {q : Nat} {x : Pt} (z : Bool) (h : PBox w q x) : PBox (w.setCell ⟨q, 1, none⟩ (.bool z)) q { x with has := z } :=
  ⟨⟨(pset_else (by decide)).trans h.at_.c0, pset_same h.at_.c1, (pset_else (by decide)).trans h.at_.c2, (pset_else (by decide)).trans h.at_.c3, (pset_else (by decide)).trans h.at_.c4, (pset_else (by decide)).trans h.at_.c5, (pset_else (by decide)).trans h.at_.c6, (pset_else (by decide)).trans h.at_.c7, (pset_else (by decide)).trans h.at_.c8, (pset_else (by decide)).trans h.at_.c9, (pset_else (by decide)).trans h.at_.c10⟩, fun i => by rw [World.frozen?_setCell]; exact h.fr i⟩
theorem PBox.set2 {w : World} {q : Nat} {x : Pt} (z : Int) (h : PBox w q x) : PBox (w.setCell ⟨q, 2, none⟩ (.int .i64 z)) q { x with r := z } :=
  ⟨⟨(pset_else (by decide)).trans h.at_.c0, (pset_else (by decide)).trans h.at_.c1, pset_same h.at_.c2, (pset_else (by decide)).trans h.at_.c3, (pset_else (by decide)).trans h.at_.c4, (pset_else (by decide)).trans h.at_.c5, (pset_else (by decide)).trans h.at_.c6, (pset_else (by decide)).trans h.at_.c7, (pset_else (by decide)).trans h.at_.c8, (pset_else (by decide)).trans h.at_.c9, (pset_else (by decide)).trans h.at_.c10⟩, fun i => by rw [World.frozen?_setCell]; exact h.fr i⟩
theorem PBox.set3 {w : World} {q : Nat} {x : Pt} (z : Int) (h : PBox w q x) : PBox (w.setCell ⟨q, 3, none⟩ (.int .i64 z)) q { x with c := z } :=
  ⟨⟨(pset_else (by decide)).trans h.at_.c0, (pset_else (by decide)).trans h.at_.c1, (pset_else (by decide)).trans h.at_.c2, pset_same h.at_.c3, (pset_else (by decide)).trans h.at_.c4, (pset_else (by decide)).trans h.at_.c5, (pset_else (by decide)).trans h.at_.c6, (pset_else (by decide)).trans h.at_.c7, (pset_else (by decide)).trans h.at_.c8, (pset_else (by decide)).trans h.at_.c9, (pset_else (by decide)).trans h.at_.c10⟩, fun i => by rw [World.frozen?_setCell]; exact h.fr i⟩
theorem PBox.set4 {w : World} {q : Nat} {x : Pt} (z : Int) (h : PBox w q x) : PBox (w.setCell ⟨q, 4, none⟩ (.int .i64 z)) q { x with b := z } :=
  ⟨⟨(pset_else (by decide)).trans h.at_.c0, (pset_else (by decide)).trans h.at_.c1, (pset_else (by decide)).trans h.at_.c2, (pset_else (by decide)).trans h.at_.c3, pset_same h.at_.c4, (pset_else (by decide)).trans h.at_.c5, (pset_else (by decide)).trans h.at_.c6, (pset_else (by decide)).trans h.at_.c7, (pset_else (by decide)).trans h.at_.c8, (pset_else (by decide)).trans h.at_.c9, (pset_else (by decide)).trans h.at_.c10⟩, fun i => by rw [World.frozen?_setCell]; exact h.fr i⟩
theorem PBox.set5 {w : World} {q : Nat} {x : Pt} (z : Int) (h : PBox w q x) : PBox (w.setCell ⟨q, 5, none⟩ (.int .i64 z)) q { x with p := z } :=
  ⟨⟨(pset_else (by decide)).trans h.at_.c0, (pset_else (by decide)).trans h.at_.c1, (pset_else (by decide)).trans h.at_.c2, (pset_else (by decide)).trans h.at_.c3, (pset_else (by decide)).trans h.at_.c4, pset_same h.at_.c5, (pset_else (by decide)).trans h.at_.c6, (pset_else (by decide)).trans h.at_.c7, (pset_else (by decide)).trans h.at_.c8, (pset_else (by decide)).trans h.at_.c9, (pset_else (by decide)).trans h.at_.c10⟩, fun i => by rw [World.frozen?_setCell]; exact h.fr i⟩
theorem PBox.set6 {w : World} {q : Nat} {x : Pt} (z : Int) (h : PBox w q x) : PBox (w.setCell ⟨q, 6, none⟩ (.int .i64 z)) q { x with h := z } :=
  ⟨⟨(pset_else (by decide)).trans h.at_.c0, (pset_else (by decide)).trans h.at_.c1, (pset_else (by decide)).trans h.at_.c2, (pset_else (by decide)).trans h.at_.c3, (pset_else (by decide)).trans h.at_.c4, (pset_else (by decide)).trans h.at_.c5, pset_same h.at_.c6, (pset_else (by decide)).trans h.at_.c7, (pset_else (by decide)).trans h.at_.c8, (pset_else (by decide)).trans h.at_.c9, (pset_else (by decide)).trans h.at_.c10⟩, fun i => by rw [World.frozen?_setCell]; exact h.fr i⟩
theorem PBox.set7 {w : World} {q : Nat} {x : Pt} (z : Int) (h : PBox w q x) : PBox (w.setCell ⟨q, 7, none⟩ (.int .i64 z)) q { x with l := z } :=
  ⟨⟨(pset_else (by decide)).trans h.at_.c0, (pset_else (by decide)).trans h.at_.c1, (pset_else (by decide)).trans h.at_.c2, (pset_else (by decide)).trans h.at_.c3, (pset_else (by decide)).trans h.at_.c4, (pset_else (by decide)).trans h.at_.c5, (pset_else (by decide)).trans h.at_.c6, pset_same h.at_.c7, (pset_else (by decide)).trans h.at_.c8, (pset_else (by decide)).trans h.at_.c9, (pset_else (by decide)).trans h.at_.c10⟩, fun i => by rw [World.frozen?_setCell]; exact h.fr i⟩
theorem PBox.set8 {w : World} {q : Nat} {x : Pt} (z : Int) (h : PBox w q x) : PBox (w.setCell ⟨q, 8, none⟩ (.int .i64 z)) q { x with ro := z } :=
  ⟨⟨(pset_else (by decide)).trans h.at_.c0, (pset_else (by decide)).trans h.at_.c1, (pset_else (by decide)).trans h.at_.c2, (pset_else (by decide)).trans h.at_.c3, (pset_else (by decide)).trans h.at_.c4, (pset_else (by decide)).trans h.at_.c5, (pset_else (by decide)).trans h.at_.c6, (pset_else (by decide)).trans h.at_.c7, pset_same h.at_.c8, (pset_else (by decide)).trans h.at_.c9, (pset_else (by decide)).trans h.at_.c10⟩, fun i => by rw [World.frozen?_setCell]; exact h.fr i⟩
theorem PBox.set9 {w : World} {q : Nat} {x : Pt} (z : Int) (h : PBox w q x) : PBox (w.setCell ⟨q, 9, none⟩ (.int .i64 z)) q { x with wa := z } :=
  ⟨⟨(pset_else (by decide)).trans h.at_.c0, (pset_else (by decide)).trans h.at_.c1, (pset_else (by decide)).trans h.at_.c2, (pset_else (by decide)).trans h.at_.c3, (pset_else (by decide)).trans h.at_.c4, (pset_else (by decide)).trans h.at_.c5, (pset_else (by decide)).trans h.at_.c6, (pset_else (by decide)).trans h.at_.c7, (pset_else (by decide)).trans h.at_.c8, pset_same h.at_.c9, (pset_else (by decide)).trans h.at_.c10⟩, fun i => by rw [World.frozen?_setCell]; exact h.fr i⟩
theorem PBox.set10 {w : World} {q : Nat} {x : Pt} (z : Bool) (h : PBox w q x) : PBox (w.setCell ⟨q, 10, none⟩ (.bool z)) q { x with op := z } :=
  ⟨⟨(pset_else (by decide)).trans h.at_.c0, (pset_else (by decide)).trans h.at_.c1, (pset_else (by decide)).trans h.at_.c2, (pset_else (by decide)).trans h.at_.c3, (pset_else (by decide)).trans h.at_.c4, (pset_else (by decide)).trans h.at_.c5, (pset_else (by decide)).trans h.at_.c6, (pset_else (by decide)).trans h.at_.c7, (pset_else (by decide)).trans h.at_.c8, (pset_else (by decide)).trans h.at_.c9, pset_same h.at_.c10⟩, fun i => by rw [World.frozen?_setCell]; exact h.fr i⟩
set_option maxRecDepth 100000 in
theorem portIn_open {H : Type} {enc : TypeId × Value → H} {w : World} {r : Reach} {b0 : Nat} {v : Value} {d : DataW H} {p : List MemPlace} (hv : Value.okWide Tryz.prog w r b0 211 v) (h : DataW.Trod enc Tryz.prog w 0 (fun _ => true) true 211 v d p) :
    ∃ x : Pt, v = .agg #[.bool x.up, .bool x.has, .int .i64 x.r, .int .i64 x.c, .int .i64 x.b, .int .i64 x.p, .int .i64 x.h, .int .i64 x.l, .int .i64 x.ro, .int .i64 x.wa, .bool x.op] := by
  obtain ⟨cs, rfl, hsz⟩ := okWide_struct Tryz.underlying211 hv
  rw [(by kernel_rfl : Tryz.prog.cellsOf 211 = 11)] at hsz
  obtain ⟨cs⟩ := cs
  obtain ⟨fuel, hf0⟩ := h
  simp only [Value.cells] at hf0
  have hlen : cs.length = 11 := by simpa using hsz
  obtain ⟨xs, k, hk, hxy, _, hxl, hf⟩ := DataW.trod_struct Tryz.underlying211 hf0
  match xs, hxl, cs, hlen with
  | [y0, y1, y2, y3, y4, y5, y6, y7], _, [c0, c1, c2, c3, c4, c5, c6, c7, c8, c9, c10], _ =>
    have g0 : DataW.trod enc Tryz.prog w 0 (fun _ => true) true k 4 ((List.drop 0 [c0, c1, c2, c3, c4, c5, c6, c7, c8, c9, c10]).take (Tryz.prog.cellsOf 4)) = some y0 := hf 0 _ rfl
    rw [(by kernel_rfl : Tryz.prog.cellsOf 4 = 1)] at g0
    have g1 : DataW.trod enc Tryz.prog w 0 (fun _ => true) true k 4 ((List.drop 1 [c0, c1, c2, c3, c4, c5, c6, c7, c8, c9, c10]).take (Tryz.prog.cellsOf 4)) = some y1 := hf 1 _ rfl
    rw [(by kernel_rfl : Tryz.prog.cellsOf 4 = 1)] at g1
    have g2 : DataW.trod enc Tryz.prog w 0 (fun _ => true) true k 209 ((List.drop 2 [c0, c1, c2, c3, c4, c5, c6, c7, c8, c9, c10]).take (Tryz.prog.cellsOf 209)) = some y2 := hf 2 _ rfl
    rw [(by kernel_rfl : Tryz.prog.cellsOf 209 = 4)] at g2
    have g3 : DataW.trod enc Tryz.prog w 0 (fun _ => true) true k 3 ((List.drop 6 [c0, c1, c2, c3, c4, c5, c6, c7, c8, c9, c10]).take (Tryz.prog.cellsOf 3)) = some y3 := hf 3 _ rfl
    rw [(by kernel_rfl : Tryz.prog.cellsOf 3 = 1)] at g3
    have g4 : DataW.trod enc Tryz.prog w 0 (fun _ => true) true k 3 ((List.drop 7 [c0, c1, c2, c3, c4, c5, c6, c7, c8, c9, c10]).take (Tryz.prog.cellsOf 3)) = some y4 := hf 4 _ rfl
    rw [(by kernel_rfl : Tryz.prog.cellsOf 3 = 1)] at g4
    have g5 : DataW.trod enc Tryz.prog w 0 (fun _ => true) true k 3 ((List.drop 8 [c0, c1, c2, c3, c4, c5, c6, c7, c8, c9, c10]).take (Tryz.prog.cellsOf 3)) = some y5 := hf 5 _ rfl
    rw [(by kernel_rfl : Tryz.prog.cellsOf 3 = 1)] at g5
    have g6 : DataW.trod enc Tryz.prog w 0 (fun _ => true) true k 3 ((List.drop 9 [c0, c1, c2, c3, c4, c5, c6, c7, c8, c9, c10]).take (Tryz.prog.cellsOf 3)) = some y6 := hf 6 _ rfl
    rw [(by kernel_rfl : Tryz.prog.cellsOf 3 = 1)] at g6
    have g7 : DataW.trod enc Tryz.prog w 0 (fun _ => true) true k 4 ((List.drop 10 [c0, c1, c2, c3, c4, c5, c6, c7, c8, c9, c10]).take (Tryz.prog.cellsOf 4)) = some y7 := hf 7 _ rfl
    rw [(by kernel_rfl : Tryz.prog.cellsOf 4 = 1)] at g7
    obtain ⟨us, k2, hk2, hxy2, _, hul, hg⟩ := DataW.trod_struct Tryz.underlying209 g2
    match us, hul with
    | [u0, u1, u2, u3], _ =>
      have q0 : DataW.trod enc Tryz.prog w 0 (fun _ => true) true k2 3 ((List.drop 0 [c2, c3, c4, c5]).take (Tryz.prog.cellsOf 3)) = some u0 := hg 0 _ rfl
      rw [(by kernel_rfl : Tryz.prog.cellsOf 3 = 1)] at q0
      have q1 : DataW.trod enc Tryz.prog w 0 (fun _ => true) true k2 3 ((List.drop 1 [c2, c3, c4, c5]).take (Tryz.prog.cellsOf 3)) = some u1 := hg 1 _ rfl
      rw [(by kernel_rfl : Tryz.prog.cellsOf 3 = 1)] at q1
      have q2 : DataW.trod enc Tryz.prog w 0 (fun _ => true) true k2 3 ((List.drop 2 [c2, c3, c4, c5]).take (Tryz.prog.cellsOf 3)) = some u2 := hg 2 _ rfl
      rw [(by kernel_rfl : Tryz.prog.cellsOf 3 = 1)] at q2
      have q3 : DataW.trod enc Tryz.prog w 0 (fun _ => true) true k2 3 ((List.drop 3 [c2, c3, c4, c5]).take (Tryz.prog.cellsOf 3)) = some u3 := hg 3 _ rfl
      rw [(by kernel_rfl : Tryz.prog.cellsOf 3 = 1)] at q3
      obtain ⟨z0, e0, _⟩ := DataW.trod_bool Tryz.underlying4 g0
      obtain ⟨z1, e1, _⟩ := DataW.trod_bool Tryz.underlying4 g1
      obtain ⟨z10, e10, _⟩ := DataW.trod_bool Tryz.underlying4 g7
      obtain ⟨z2, e2, _, _⟩ := DataW.trod_int Tryz.underlying3 q0
      obtain ⟨z3, e3, _, _⟩ := DataW.trod_int Tryz.underlying3 q1
      obtain ⟨z4, e4, _, _⟩ := DataW.trod_int Tryz.underlying3 q2
      obtain ⟨z5, e5, _, _⟩ := DataW.trod_int Tryz.underlying3 q3
      obtain ⟨z6, e6, _, _⟩ := DataW.trod_int Tryz.underlying3 g3
      obtain ⟨z7, e7, _, _⟩ := DataW.trod_int Tryz.underlying3 g4
      obtain ⟨z8, e8, _, _⟩ := DataW.trod_int Tryz.underlying3 g5
      obtain ⟨z9, e9, _, _⟩ := DataW.trod_int Tryz.underlying3 g6
      simp at e0 e1 e2 e3 e4 e5 e6 e7 e8 e9 e10
      subst e0 e1 e2 e3 e4 e5 e6 e7 e8 e9 e10
      exact ⟨⟨z0, z1, z2, z3, z4, z5, z6, z7, z8, z9, z10⟩, rfl⟩
set_option maxHeartbeats 2000000 in
theorem toP (x : Pt) (w : World) :
    Calls Tryz.prog 172 #[.agg #[.bool x.up, .bool x.has, .int .i64 x.r, .int .i64 x.c, .int .i64 x.b, .int .i64 x.p, .int .i64 x.h, .int .i64 x.l, .int .i64 x.ro, .int .i64 x.wa, .bool x.op]] w fun e w' => e = .returned (.agg #[.bool x.up, .bool x.has, .int .i64 x.r, .int .i64 x.c, .int .i64 x.b, .int .i64 x.p, .int .i64 x.h, .int .i64 x.l, .int .i64 x.ro, .int .i64 x.wa, .bool x.op]) ∧ Below w.heap.size w w' := by
  obtain ⟨w0, hw0⟩ : ∃ w0, w0 = (((w.alloc (Obj.cells #[.bool x.up, .bool x.has, .int .i64 x.r, .int .i64 x.c, .int .i64 x.b, .int .i64 x.p, .int .i64 x.h, .int .i64 x.l, .int .i64 x.ro, .int .i64 x.wa, .bool x.op] 211)).alloc (Obj.cells #[.bool false, .bool false, .int .i64 0, .int .i64 0, .int .i64 0, .int .i64 0, .int .i64 0, .int .i64 0, .int .i64 0, .int .i64 0, .bool false] 75)).alloc (Obj.cells #[.bool x.up, .bool x.has, .int .i64 0, .int .i64 0, .int .i64 0, .int .i64 0, .int .i64 0, .int .i64 0, .int .i64 0, .int .i64 0, .bool false] 75)) := ⟨_, rfl⟩
  obtain ⟨N, hN⟩ : ∃ N, N = w.heap.size := ⟨_, rfl⟩
  have b0 : Below w.heap.size w w0 := by rw [hw0]; exact (((Below.refl _ _).alloc (Nat.le_refl _) _).alloc (by simp) _).alloc (by simp; omega) _
  have P0 : PtAt w0 N x := by rw [hw0, hN]; constructor <;> simp [go_sem]
  have Q0 : PBox w0 (N + 1) ⟨false, false, 0, 0, 0, 0, 0, 0, 0, 0, false⟩ := by rw [hw0, hN]; refine ⟨?_, ?_⟩; constructor <;> simp [go_sem]; intro i; simp [go_sem]
  have R0 : PBox w0 (N + 1 + 1) ⟨x.up, x.has, 0, 0, 0, 0, 0, 0, 0, 0, false⟩ := by rw [hw0, hN]; refine ⟨?_, ?_⟩; constructor <;> simp [go_sem]; intro i; simp [go_sem]
  go_enter Tryz.func172, Tryz.ntmps172
  go_wp2_with fail
  go_at_call 181
  rw [← hw0, ← hN]
  have hN' : w.heap.size ≤ N := by omega
  clear hw0 hN
  refine (toV x.r x.c x.b x.p w0).mono ?_
  rintro e w1 ⟨rfl, k1⟩
  have hle : N + 1 + 1 < w0.heap.size := R0.lt
  have b1 := b0.trans (k1.mono (by omega))
  have P1 := P0.below k1 (by omega)
  have Q1 := Q0.below k1 (by omega)
  have R1 := R0.below k1 (by omega)
  clear P0 Q0 R0 k1 b0
  obtain ⟨p0, p1, p2, p3, p4, p5, p6, p7, p8, p9, p10⟩ := P1
  have R1' := R1
  obtain ⟨⟨r0, r1, r2, r3, r4, r5, r6, r7, r8, r9, r10⟩, rf⟩ := R1
  go_upto_region 5 with fail
  obtain ⟨y, hy⟩ : ∃ y, y = (((w1.setCell ⟨N + 1 + 1, 2, none⟩ (.int .i64 x.r)).setCell ⟨N + 1 + 1, 3, none⟩ (.int .i64 x.c)).setCell ⟨N + 1 + 1, 4, none⟩ (.int .i64 x.b)).setCell ⟨N + 1 + 1, 5, none⟩ (.int .i64 x.p) := ⟨_, rfl⟩
  have R2 : PBox y (N + 1 + 1) ⟨x.up, x.has, x.r, x.c, x.b, x.p, 0, 0, 0, 0, false⟩ := by rw [hy]; exact (((R1'.set2 x.r).set3 x.c).set4 x.b).set5 x.p
  have P2 : PtAt y N x := by rw [hy]; exact ((((⟨p0, p1, p2, p3, p4, p5, p6, p7, p8, p9, p10⟩ : PtAt w1 N x).other (by omega)).other (by omega)).other (by omega)).other (by omega)
  have Q2 : PBox y (N + 1) ⟨false, false, 0, 0, 0, 0, 0, 0, 0, 0, false⟩ := by rw [hy]; exact (((Q1.other (by omega)).other (by omega)).other (by omega)).other (by omega)
  have b2 : Below w.heap.size w y := by rw [hy]; exact (((b1.setCell (by show _ ≤ N + 1 + 1; omega) _).setCell (by show _ ≤ N + 1 + 1; omega) _).setCell (by show _ ≤ N + 1 + 1; omega) _).setCell (by show _ ≤ N + 1 + 1; omega) _
  rw [← hy]
  clear hy p0 r0 p1 r1 p2 r2 p3 r3 p4 r4 p5 r5 p6 r6 p7 r7 p8 r8 p9 r9 p10 r10 rf R1' Q1 b1
  obtain ⟨p0, p1, p2, p3, p4, p5, p6, p7, p8, p9, p10⟩ := P2
  have R2' := R2
  obtain ⟨⟨r0, r1, r2, r3, r4, r5, r6, r7, r8, r9, r10⟩, rf⟩ := R2
  go_upto_region 10 with fail
  obtain ⟨z, hz⟩ : ∃ z, z = ((((y.setCell ⟨N + 1 + 1, 6, none⟩ (.int .i64 x.h)).setCell ⟨N + 1 + 1, 7, none⟩ (.int .i64 x.l)).setCell ⟨N + 1 + 1, 8, none⟩ (.int .i64 x.ro)).setCell ⟨N + 1 + 1, 9, none⟩ (.int .i64 x.wa)).setCell ⟨N + 1 + 1, 10, none⟩ (.bool x.op) := ⟨_, rfl⟩
  have R3 : PBox z (N + 1 + 1) x := by rw [hz]; exact ((((R2'.set6 x.h).set7 x.l).set8 x.ro).set9 x.wa).set10 x.op
  have Q3 : PBox z (N + 1) ⟨false, false, 0, 0, 0, 0, 0, 0, 0, 0, false⟩ := by rw [hz]; exact ((((Q2.other (by omega)).other (by omega)).other (by omega)).other (by omega)).other (by omega)
  have b3 : Below w.heap.size w z := by rw [hz]; exact ((((b2.setCell (by show _ ≤ N + 1 + 1; omega) _).setCell (by show _ ≤ N + 1 + 1; omega) _).setCell (by show _ ≤ N + 1 + 1; omega) _).setCell (by show _ ≤ N + 1 + 1; omega) _).setCell (by show _ ≤ N + 1 + 1; omega) _
  rw [← hz]
  clear hz p0 r0 p1 r1 p2 r2 p3 r3 p4 r4 p5 r5 p6 r6 p7 r7 p8 r8 p9 r9 p10 r10 rf R2' Q2 b2
  obtain ⟨r0, r1, r2, r3, r4, r5, r6, r7, r8, r9, r10⟩ := R3.at_
  obtain ⟨⟨q0, q1, q2, q3, q4, q5, q6, q7, q8, q9, q10⟩, qf⟩ := Q3
  clear R3
  go_wp2
  refine bodyPost_ret (v := .agg #[.bool x.up, .bool x.has, .int .i64 x.r, .int .i64 x.c, .int .i64 x.b, .int .i64 x.p, .int .i64 x.h, .int .i64 x.l, .int .i64 x.ro, .int .i64 x.wa, .bool x.op]) (by simp [results, Tryz.results172, go_sem, *]) rfl ⟨rfl, ?_⟩
  repeat' (first | with_reducible exact b3 | refine Below.setCell ?_ (by show _ ≤ N + 1; omega) _)

theorem eqVs (r c b p : Int) (w : World) :
    Calls Tryz.prog 180 #[.agg #[.int .i64 r, .int .i64 c, .int .i64 b, .int .i64 p], .agg #[.int .i64 r, .int .i64 c, .int .i64 b, .int .i64 p]] w fun e w' => e = .returned (.bool true) ∧ Below w.heap.size w w' := by
  go_enter Tryz.func180, Tryz.ntmps180
  go_wp2
  go_ret
  exact ⟨rfl, ((Below.refl _ _).alloc (Nat.le_refl _) _).alloc (by simp) _⟩
set_option maxHeartbeats 2000000 in
theorem eqP (x : Pt) (w : World) :
    Calls Tryz.prog 171 #[.agg #[.bool x.up, .bool x.has, .int .i64 x.r, .int .i64 x.c, .int .i64 x.b, .int .i64 x.p, .int .i64 x.h, .int .i64 x.l, .int .i64 x.ro, .int .i64 x.wa, .bool x.op], .agg #[.bool x.up, .bool x.has, .int .i64 x.r, .int .i64 x.c, .int .i64 x.b, .int .i64 x.p, .int .i64 x.h, .int .i64 x.l, .int .i64 x.ro, .int .i64 x.wa, .bool x.op]] w fun e w' => e = .returned (.bool true) ∧ Below w.heap.size w w' := by
  obtain ⟨w0, hw0⟩ : ∃ w0, w0 = ((w.alloc (Obj.cells #[.bool x.up, .bool x.has, .int .i64 x.r, .int .i64 x.c, .int .i64 x.b, .int .i64 x.p, .int .i64 x.h, .int .i64 x.l, .int .i64 x.ro, .int .i64 x.wa, .bool x.op] 75)).alloc (Obj.cells #[.bool x.up, .bool x.has, .int .i64 x.r, .int .i64 x.c, .int .i64 x.b, .int .i64 x.p, .int .i64 x.h, .int .i64 x.l, .int .i64 x.ro, .int .i64 x.wa, .bool x.op] 75)) := ⟨_, rfl⟩
  obtain ⟨N, hN⟩ : ∃ N, N = w.heap.size := ⟨_, rfl⟩
  have b0 : Below w.heap.size w w0 := by rw [hw0]; exact ((Below.refl _ _).alloc (Nat.le_refl _) _).alloc (by simp) _
  have P0 : PtAt w0 N x := by rw [hw0, hN]; constructor <;> simp [go_sem]
  have R0 : PtAt w0 (N + 1) x := by rw [hw0, hN]; constructor <;> simp [go_sem]
  go_enter Tryz.func171, Tryz.ntmps171
  go_wp2_with fail
  go_at_call 180
  rw [← hw0, ← hN]
  have hN' : w.heap.size ≤ N := by omega
  clear hw0 hN
  refine (eqVs x.r x.c x.b x.p w0).mono ?_
  rintro e w1 ⟨rfl, k1⟩
  have hle : N + 1 < w0.heap.size := R0.lt
  have b1 := b0.trans (k1.mono (by omega))
  obtain ⟨p0, p1, p2, p3, p4, p5, p6, p7, p8, p9, p10⟩ := P0.below k1 (by omega)
  obtain ⟨r0, r1, r2, r3, r4, r5, r6, r7, r8, r9, r10⟩ := R0.below k1 (by omega)
  clear P0 R0 k1 b0
  go_wp2
  go_ret
  exact ⟨rfl, b1⟩

end Go.Proofs.YtemibefbkjpnaaaGreat
namespace Go.Proofs.YtemibefbkjpnaaaGreat
open Go.ChangeShapes Go.WideShapes Go.ChangeAt Go.RowKit
open Go.ChangeMaps (open_string shut_string)
set_option linter.unusedVariables false
set_option maxRecDepth 100000

theorem oneIfI (o : Bool) (m : Int) (hm : (if o = true then (1 : Int) else 0) = m) (w : World) : Calls Tryz.prog 84 #[.bool o] w fun e w' => e = .returned (.int .i64 m) ∧ w' = w := by
  cases o <;> (simp at hm; subst hm)
  · go_enter Tryz.func84, Tryz.ntmps84
    go_wp2
    go_ret
    exact ⟨rfl, rfl⟩
  · go_enter Tryz.func84, Tryz.ntmps84
    go_wp2
    go_ret
    exact ⟨rfl, rfl⟩
theorem l1BitS (o : Bool) (m : Int) (hm : (if o = true then (1 : Int) else 0) = m) (w : World) : Calls Tryz.prog 46 #[.bool o] w fun e w' => e = .returned (.int .i64 m) ∧ w' = w := by
  cases o <;> (simp at hm; subst hm)
  · go_enter Tryz.func46, Tryz.ntmps46
    go_wp2
    go_ret
    exact ⟨rfl, rfl⟩
  · go_enter Tryz.func46, Tryz.ntmps46
    go_wp2
    go_ret
    exact ⟨rfl, rfl⟩

end Go.Proofs.YtemibefbkjpnaaaGreat
namespace Go.Proofs.YtemibefbkjpnaaaGreat
open Go.ChangeShapes Go.WideShapes Go.ChangeAt Go.RowKit
open Go.ChangeMaps (open_string shut_string)
set_option linter.unusedVariables false
set_option maxRecDepth 100000

theorem Tryz.info5' : (Tryz.prog.info? 5).map (fun i => (i.zero, i.size, i.bytes)) = some (some (.int .u8 0), 1, 1) := by kernel_rfl
/-- What a loop that fills the block B has done behind k rounds. -/
def Filled (B len : Nat) (f : Nat → Int) (k : Nat) (w wr : World) : Prop :=
  Below B w wr ∧ B < wr.heap.size ∧ (∀ j, j < len → ∃ u, wr.cell? ⟨B, j, none⟩ = some u) ∧ (∀ j, j < len → wr.frozen? ⟨B, j, none⟩ = false) ∧ ∀ j, j < k → wr.cell? ⟨B, j, none⟩ = some (.int .u8 (f j))
theorem Filled.step {B len : Nat} {f : Nat → Int} {k : Nat} {w wr : World} (h : Filled B len f k w wr) (hk : k < len) : Filled B len f (k + 1) w (wr.setCell ⟨B, k, none⟩ (.int .u8 (f k))) := by
  obtain ⟨h1, h2, h3, h4, h5⟩ := h
  refine ⟨h1.setCell (Nat.le_refl _) _, by simpa using h2, ?_, ?_, ?_⟩
  · intro j hj
    exact cell?_setCell_some (h3 j hj).choose_spec
  · intro j hj
    simpa using h4 j hj
  · intro j hj
    by_cases e : j = k
    · subst e
      exact cell_set_same (h3 j hk)
    · rw [cell_set_ne e]
      exact h5 j (by omega)

theorem filled_made {w w1 : World} {len : Nat} {f : Nat → Int} {xs : List Value} (hown : w1.ownsRow w.heap.size 5 1 (.slice (some ⟨w.heap.size, 0, none⟩) len len) len xs) (hgrow : w.grownBy w1 none) : Filled w.heap.size len f 0 w w1 := by
  refine ⟨(Below.refl _ _).grown hgrow (Nat.le_refl _) (by simp), ?_, ?_, ?_, fun j hj => by omega⟩
  · rcases hown.2 with ⟨h, _⟩ | ⟨g, cap, cur, h, _, hg, _⟩
    · simp at h
    · simp only [Value.slice.injEq, Option.some.injEq, Addr.mk.injEq, and_true, true_and] at h
      obtain ⟨rfl, _⟩ := h
      exact (Array.getElem?_eq_some_iff.1 hg).1
  · intro j hj
    have hx := hown.1
    rw [hown.cellAt j (by omega)]
    exact ⟨xs[j]'(by omega), List.getElem?_eq_getElem (by omega)⟩
  · intro j hj
    exact hown.frozenAt j

/-- What markByteS has done behind k rounds, at a row at (b, off). -/
def Marked (b off len : Nat) (m : Int) (k : Nat) (w wr : World) : Prop :=
  w.grownBy wr (some b) ∧ (∀ j, j < len → (∃ u, wr.cell? ⟨b, off + j, none⟩ = some u) ∧ wr.frozen? ⟨b, off + j, none⟩ = false) ∧ ∀ j, j < k → wr.cell? ⟨b, off + j, none⟩ = some (.int .u8 ((m + j) % 256))
theorem Marked.step {b off len : Nat} {m : Int} {k : Nat} {w wr : World} (h : Marked b off len m k w wr) (hk : k < len) : Marked b off len m (k + 1) w (wr.setCell ⟨b, off + k, none⟩ (.int .u8 ((m + k) % 256))) := by
  obtain ⟨h1, h2, h3⟩ := h
  refine ⟨⟨h1.os, h1.tape, h1.output, by simpa using h1.size, fun j hj hne => ?_⟩, fun j hj => ⟨?_, ?_⟩, fun j hj => ?_⟩
  · rw [Below.heap_setCell _ _ _ _ (fun e => hne (by rw [e]))]
    exact h1.block j hj hne
  · exact cell?_setCell_some (h2 j hj).1.choose_spec
  · simpa using (h2 j hj).2
  · by_cases e : j = k
    · subst e
      exact cell_set_same (h2 j hk).1
    · rw [cell_set_ne (by omega)]
      exact h3 j (by omega)

theorem mark_below {w w' : World} {ad : Option Addr} {len B : Nat} {n : Nat} (h : w' = w.drewN n ∨ ∃ a, ad = some a ∧ 0 < len ∧ (w.drewN n).grownBy w' (some a.block)) (hB : ∀ a, ad = some a → B ≤ a.block) (hs : B ≤ w.heap.size) : Below B w w' := by
  rcases h with rfl | ⟨a, e, _, hg⟩
  · exact below_drewN (Below.refl _ _) n
  · refine (below_drewN (Below.refl _ _) n).trans ⟨hg.os, hg.tape, hg.output, hg.size, fun k hk => ?_⟩
    exact hg.block k (Nat.lt_of_lt_of_le hk hs) (by have := hB a e; simp; omega)


end Go.Proofs.YtemibefbkjpnaaaGreat
