import Derived.Deep.Cut
import Derived.Test.YtjmnaeeknomiaaaGreatDoorRKWVec2
import Derived.Test.YtjmnaeeknomiaaaGreatDoorRM2
namespace Go.Proofs.YtjmnaeeknomiaaaGreatDoor
open Go.ChangeShapes Go.WideShapes Go.ChangeAt Go.RowKit
open Go.ChangeMaps (open_string shut_string)
set_option linter.unusedVariables false
set_option maxRecDepth 100000
set_option maxHeartbeats 32000000
set_option linter.unusedSimpArgs false
open Go.Proofs.Tryz
attribute [local go_sem] ji ja
structure Pt where
 up : Bool
 has : Bool
 r : Int
 c : Int
 b : Int
 p : Int
 h : Int
 l : Int
 ro : Int
 wa : Int
 op : Bool
abbrev pc (x : Pt) : Array Value := #[.bool x.up, .bool x.has, ji x.r, ji x.c, ji x.b, ji x.p, ji x.h, ji x.l, ji x.ro, ji x.wa, .bool x.op]
attribute [local go_sem] pc
structure Bg (w : World) (q : Nat) (x : Pt) : Prop where
 c0 : w.cell? (ja q 0) = some (.bool x.up)
 c1 : w.cell? (ja q 1) = some (.bool x.has)
 c2 : w.cell? (ja q 2) = some (ji x.r)
 c3 : w.cell? (ja q 3) = some (ji x.c)
 c4 : w.cell? (ja q 4) = some (ji x.b)
 c5 : w.cell? (ja q 5) = some (ji x.p)
 c6 : w.cell? (ja q 6) = some (ji x.h)
 c7 : w.cell? (ja q 7) = some (ji x.l)
 c8 : w.cell? (ja q 8) = some (ji x.ro)
 c9 : w.cell? (ja q 9) = some (ji x.wa)
 c10 : w.cell? (ja q 10) = some (.bool x.op)
theorem Bg.all {w : World} {q : Nat} {x : Pt} (h : Bg w q x) : w.cell? (ja q 0) = some (.bool x.up) ∧ w.cell? (ja q 1) = some (.bool x.has) ∧ w.cell? (ja q 2) = some (ji x.r) ∧ w.cell? (ja q 3) = some (ji x.c) ∧ w.cell? (ja q 4) = some (ji x.b) ∧ w.cell? (ja q 5) = some (ji x.p) ∧ w.cell? (ja q 6) = some (ji x.h) ∧ w.cell? (ja q 7) = some (ji x.l) ∧ w.cell? (ja q 8) = some (ji x.ro) ∧ w.cell? (ja q 9) = some (ji x.wa) ∧ w.cell? (ja q 10) = some (.bool x.op) := ⟨h.c0, h.c1, h.c2, h.c3, h.c4, h.c5, h.c6, h.c7, h.c8, h.c9, h.c10⟩
theorem Bg.keep {w w' : World} {q : Nat} {x : Pt} (h : Bg w q x) (k : w'.heap[q]? = w.heap[q]?) : Bg w' q x :=
 ⟨(World.cell?_of_block (a := (ja q 0)) k).trans h.c0, (World.cell?_of_block (a := (ja q 1)) k).trans h.c1, (World.cell?_of_block (a := (ja q 2)) k).trans h.c2, (World.cell?_of_block (a := (ja q 3)) k).trans h.c3, (World.cell?_of_block (a := (ja q 4)) k).trans h.c4, (World.cell?_of_block (a := (ja q 5)) k).trans h.c5, (World.cell?_of_block (a := (ja q 6)) k).trans h.c6, (World.cell?_of_block (a := (ja q 7)) k).trans h.c7, (World.cell?_of_block (a := (ja q 8)) k).trans h.c8, (World.cell?_of_block (a := (ja q 9)) k).trans h.c9, (World.cell?_of_block (a := (ja q 10)) k).trans h.c10⟩
theorem Bg.below {w w' : World} {q n : Nat} {x : Pt} (h : Bg w q x) (k : Below n w w') (hq : q < n) : Bg w' q x := h.keep (k.block q hq)
theorem Bg.lt {w : World} {q : Nat} {x : Pt} (h : Bg w q x) : q < w.heap.size := World.block_lt_of_cell? w _ h.c0
theorem EN (w : World) (t : TypeId) (x : Pt) : Bg (w.alloc (Obj.cells #[.bool x.up, .bool x.has, ji x.r, ji x.c, ji x.b, ji x.p, ji x.h, ji x.l, ji x.ro, ji x.wa, .bool x.op] t)) w.heap.size x := by
 refine ⟨?_, ?_, ?_, ?_, ?_, ?_, ?_, ?_, ?_, ?_, ?_⟩ <;> simp [go_sem]
structure AO (w : World) (q : Nat) (x : Pt) : Prop where
 at_ : Bg w q x
 fr : ∀ i, w.frozen? (ja q i) = false
theorem AO.keep {w w' : World} {q : Nat} {x : Pt} (h : AO w q x) (k : w'.heap[q]? = w.heap[q]?) : AO w' q x :=
 ⟨h.at_.keep k, fun i => (World.frozen?_of_block (a := (ja q i)) k).trans (h.fr i)⟩
theorem AO.lt {w : World} {q : Nat} {x : Pt} (h : AO w q x) : q < w.heap.size := h.at_.lt
theorem AO.below {w w' : World} {q n : Nat} {x : Pt} (h : AO w q x) (g : Below n w w') (hq : q < n) : AO w' q x := h.keep (g.block q hq)
theorem AO.other {w : World} {q q' i : Nat} {x : Pt} {v : Value} (h : AO w q x) (hne : q ≠ q') : AO (w.setCell ⟨q', i, none⟩ v) q x := h.keep (AE hne)
theorem Al {w : World} {q i : Nat} {u v : Value} (h : w.cell? (ja q i) = some u) : (w.setCell (ja q i) v).cell? (ja q i) = some v := HG ⟨_, h⟩
theorem AB {w : World} {q i j : Nat} {v : Value} (h : i ≠ j) : (w.setCell (ja q i) v).cell? (ja q j) = w.cell? (ja q j) := GX (Ne.symm h)
theorem AO.set0 {w : World} {q : Nat} {x : Pt} (z : Bool) (h : AO w q x) : AO (w.setCell (ja q 0) (.bool z)) q { x with up := z } :=
 ⟨⟨Al h.at_.c0, (AB (by decide)).trans h.at_.c1, (AB (by decide)).trans h.at_.c2, (AB (by decide)).trans h.at_.c3, (AB (by decide)).trans h.at_.c4, (AB (by decide)).trans h.at_.c5, (AB (by decide)).trans h.at_.c6, (AB (by decide)).trans h.at_.c7, (AB (by decide)).trans h.at_.c8, (AB (by decide)).trans h.at_.c9, (AB (by decide)).trans h.at_.c10⟩, fun i => by rw [World.frozen?_setCell]; exact h.fr i⟩
theorem AO.set1 {w : World} {q : Nat} {x : Pt} (z : Bool) (h : AO w q x) : AO (w.setCell (ja q 1) (.bool z)) q { x with has := z } :=
 ⟨⟨(AB (by decide)).trans h.at_.c0, Al h.at_.c1, (AB (by decide)).trans h.at_.c2, (AB (by decide)).trans h.at_.c3, (AB (by decide)).trans h.at_.c4, (AB (by decide)).trans h.at_.c5, (AB (by decide)).trans h.at_.c6, (AB (by decide)).trans h.at_.c7, (AB (by decide)).trans h.at_.c8, (AB (by decide)).trans h.at_.c9, (AB (by decide)).trans h.at_.c10⟩, fun i => by rw [World.frozen?_setCell]; exact h.fr i⟩
theorem AO.set2 {w : World} {q : Nat} {x : Pt} (z : Int) (h : AO w q x) : AO (w.setCell (ja q 2) (ji z)) q { x with r := z } :=
 ⟨⟨(AB (by decide)).trans h.at_.c0, (AB (by decide)).trans h.at_.c1, Al h.at_.c2, (AB (by decide)).trans h.at_.c3, (AB (by decide)).trans h.at_.c4, (AB (by decide)).trans h.at_.c5, (AB (by decide)).trans h.at_.c6, (AB (by decide)).trans h.at_.c7, (AB (by decide)).trans h.at_.c8, (AB (by decide)).trans h.at_.c9, (AB (by decide)).trans h.at_.c10⟩, fun i => by rw [World.frozen?_setCell]; exact h.fr i⟩
theorem AO.set3 {w : World} {q : Nat} {x : Pt} (z : Int) (h : AO w q x) : AO (w.setCell (ja q 3) (ji z)) q { x with c := z } :=
 ⟨⟨(AB (by decide)).trans h.at_.c0, (AB (by decide)).trans h.at_.c1, (AB (by decide)).trans h.at_.c2, Al h.at_.c3, (AB (by decide)).trans h.at_.c4, (AB (by decide)).trans h.at_.c5, (AB (by decide)).trans h.at_.c6, (AB (by decide)).trans h.at_.c7, (AB (by decide)).trans h.at_.c8, (AB (by decide)).trans h.at_.c9, (AB (by decide)).trans h.at_.c10⟩, fun i => by rw [World.frozen?_setCell]; exact h.fr i⟩
theorem AO.set4 {w : World} {q : Nat} {x : Pt} (z : Int) (h : AO w q x) : AO (w.setCell (ja q 4) (ji z)) q { x with b := z } :=
 ⟨⟨(AB (by decide)).trans h.at_.c0, (AB (by decide)).trans h.at_.c1, (AB (by decide)).trans h.at_.c2, (AB (by decide)).trans h.at_.c3, Al h.at_.c4, (AB (by decide)).trans h.at_.c5, (AB (by decide)).trans h.at_.c6, (AB (by decide)).trans h.at_.c7, (AB (by decide)).trans h.at_.c8, (AB (by decide)).trans h.at_.c9, (AB (by decide)).trans h.at_.c10⟩, fun i => by rw [World.frozen?_setCell]; exact h.fr i⟩
theorem AO.set5 {w : World} {q : Nat} {x : Pt} (z : Int) (h : AO w q x) : AO (w.setCell (ja q 5) (ji z)) q { x with p := z } :=
 ⟨⟨(AB (by decide)).trans h.at_.c0, (AB (by decide)).trans h.at_.c1, (AB (by decide)).trans h.at_.c2, (AB (by decide)).trans h.at_.c3, (AB (by decide)).trans h.at_.c4, Al h.at_.c5, (AB (by decide)).trans h.at_.c6, (AB (by decide)).trans h.at_.c7, (AB (by decide)).trans h.at_.c8, (AB (by decide)).trans h.at_.c9, (AB (by decide)).trans h.at_.c10⟩, fun i => by rw [World.frozen?_setCell]; exact h.fr i⟩
theorem AO.set6 {w : World} {q : Nat} {x : Pt} (z : Int) (h : AO w q x) : AO (w.setCell (ja q 6) (ji z)) q { x with h := z } :=
 ⟨⟨(AB (by decide)).trans h.at_.c0, (AB (by decide)).trans h.at_.c1, (AB (by decide)).trans h.at_.c2, (AB (by decide)).trans h.at_.c3, (AB (by decide)).trans h.at_.c4, (AB (by decide)).trans h.at_.c5, Al h.at_.c6, (AB (by decide)).trans h.at_.c7, (AB (by decide)).trans h.at_.c8, (AB (by decide)).trans h.at_.c9, (AB (by decide)).trans h.at_.c10⟩, fun i => by rw [World.frozen?_setCell]; exact h.fr i⟩
theorem AO.set7 {w : World} {q : Nat} {x : Pt} (z : Int) (h : AO w q x) : AO (w.setCell (ja q 7) (ji z)) q { x with l := z } :=
 ⟨⟨(AB (by decide)).trans h.at_.c0, (AB (by decide)).trans h.at_.c1, (AB (by decide)).trans h.at_.c2, (AB (by decide)).trans h.at_.c3, (AB (by decide)).trans h.at_.c4, (AB (by decide)).trans h.at_.c5, (AB (by decide)).trans h.at_.c6, Al h.at_.c7, (AB (by decide)).trans h.at_.c8, (AB (by decide)).trans h.at_.c9, (AB (by decide)).trans h.at_.c10⟩, fun i => by rw [World.frozen?_setCell]; exact h.fr i⟩
theorem AO.set8 {w : World} {q : Nat} {x : Pt} (z : Int) (h : AO w q x) : AO (w.setCell (ja q 8) (ji z)) q { x with ro := z } :=
 ⟨⟨(AB (by decide)).trans h.at_.c0, (AB (by decide)).trans h.at_.c1, (AB (by decide)).trans h.at_.c2, (AB (by decide)).trans h.at_.c3, (AB (by decide)).trans h.at_.c4, (AB (by decide)).trans h.at_.c5, (AB (by decide)).trans h.at_.c6, (AB (by decide)).trans h.at_.c7, Al h.at_.c8, (AB (by decide)).trans h.at_.c9, (AB (by decide)).trans h.at_.c10⟩, fun i => by rw [World.frozen?_setCell]; exact h.fr i⟩
theorem AO.set9 {w : World} {q : Nat} {x : Pt} (z : Int) (h : AO w q x) : AO (w.setCell (ja q 9) (ji z)) q { x with wa := z } :=
 ⟨⟨(AB (by decide)).trans h.at_.c0, (AB (by decide)).trans h.at_.c1, (AB (by decide)).trans h.at_.c2, (AB (by decide)).trans h.at_.c3, (AB (by decide)).trans h.at_.c4, (AB (by decide)).trans h.at_.c5, (AB (by decide)).trans h.at_.c6, (AB (by decide)).trans h.at_.c7, (AB (by decide)).trans h.at_.c8, Al h.at_.c9, (AB (by decide)).trans h.at_.c10⟩, fun i => by rw [World.frozen?_setCell]; exact h.fr i⟩
theorem AO.set10 {w : World} {q : Nat} {x : Pt} (z : Bool) (h : AO w q x) : AO (w.setCell (ja q 10) (.bool z)) q { x with op := z } :=
 ⟨⟨(AB (by decide)).trans h.at_.c0, (AB (by decide)).trans h.at_.c1, (AB (by decide)).trans h.at_.c2, (AB (by decide)).trans h.at_.c3, (AB (by decide)).trans h.at_.c4, (AB (by decide)).trans h.at_.c5, (AB (by decide)).trans h.at_.c6, (AB (by decide)).trans h.at_.c7, (AB (by decide)).trans h.at_.c8, (AB (by decide)).trans h.at_.c9, Al h.at_.c10⟩, fun i => by rw [World.frozen?_setCell]; exact h.fr i⟩
def E4 (ro : Int) : Bool := decide (1 ≤ ro ∧ ro ≤ 3)
def GP (ro : Int) : Bool := decide (0 ≤ ro ∧ ro ≤ 3)
def Ay (ro wa : Int) : Bool := decide ((ro = 1 ∨ ro = 2) ∧ wa = 0)
end Go.Proofs.YtjmnaeeknomiaaaGreatDoor
