import Derived.Deep.Cut
import Derived.Test.YtjmnaeeknomiaaaGreatRKWVec2
import Derived.Test.YtjmnaeeknomiaaaGreatRM2
namespace Go.Proofs.YtjmnaeeknomiaaaGreat
open Go.ChangeShapes Go.WideShapes Go.ChangeAt Go.RowKit
open Go.ChangeMaps (open_string shut_string)
set_option linter.unusedVariables false
set_option maxRecDepth 100000
set_option maxHeartbeats 32000000
set_option linter.unusedSimpArgs false
open Go.Proofs.Tryz
attribute [local go_sem] ji ja
structure Pt where
 up : Bool
 has : Bool
 r : Int
 c : Int
 b : Int
 p : Int
 h : Int
 l : Int
 ro : Int
 wa : Int
 op : Bool
abbrev pc (x : Pt) : Array Value := #[.bool x.up, .bool x.has, ji x.r, ji x.c, ji x.b, ji x.p, ji x.h, ji x.l, ji x.ro, ji x.wa, .bool x.op]
attribute [local go_sem] pc
structure Bv (w : World) (q : Nat) (x : Pt) : Prop where
 c0 : w.cell? (ja q 0) = some (.bool x.up)
 c1 : w.cell? (ja q 1) = some (.bool x.has)
 c2 : w.cell? (ja q 2) = some (ji x.r)
 c3 : w.cell? (ja q 3) = some (ji x.c)
 c4 : w.cell? (ja q 4) = some (ji x.b)
 c5 : w.cell? (ja q 5) = some (ji x.p)
 c6 : w.cell? (ja q 6) = some (ji x.h)
 c7 : w.cell? (ja q 7) = some (ji x.l)
 c8 : w.cell? (ja q 8) = some (ji x.ro)
 c9 : w.cell? (ja q 9) = some (ji x.wa)
 c10 : w.cell? (ja q 10) = some (.bool x.op)
theorem Bv.all {w : World} {q : Nat} {x : Pt} (h : Bv w q x) : w.cell? (ja q 0) = some (.bool x.up) ∧ w.cell? (ja q 1) = some (.bool x.has) ∧ w.cell? (ja q 2) = some (ji x.r) ∧ w.cell? (ja q 3) = some (ji x.c) ∧ w.cell? (ja q 4) = some (ji x.b) ∧ w.cell? (ja q 5) = some (ji x.p) ∧ w.cell? (ja q 6) = some (ji x.h) ∧ w.cell? (ja q 7) = some (ji x.l) ∧ w.cell? (ja q 8) = some (ji x.ro) ∧ w.cell? (ja q 9) = some (ji x.wa) ∧ w.cell? (ja q 10) = some (.bool x.op) := ⟨h.c0, h.c1, h.c2, h.c3, h.c4, h.c5, h.c6, h.c7, h.c8, h.c9, h.c10⟩
theorem Bv.keep {w w' : World} {q : Nat} {x : Pt} (h : Bv w q x) (k : w'.heap[q]? = w.heap[q]?) : Bv w' q x :=
 ⟨(World.cell?_of_block (a := (ja q 0)) k).trans h.c0, (World.cell?_of_block (a := (ja q 1)) k).trans h.c1, (World.cell?_of_block (a := (ja q 2)) k).trans h.c2, (World.cell?_of_block (a := (ja q 3)) k).trans h.c3, (World.cell?_of_block (a := (ja q 4)) k).trans h.c4, (World.cell?_of_block (a := (ja q 5)) k).trans h.c5, (World.cell?_of_block (a := (ja q 6)) k).trans h.c6, (World.cell?_of_block (a := (ja q 7)) k).trans h.c7, (World.cell?_of_block (a := (ja q 8)) k).trans h.c8, (World.cell?_of_block (a := (ja q 9)) k).trans h.c9, (World.cell?_of_block (a := (ja q 10)) k).trans h.c10⟩
theorem Bv.below {w w' : World} {q n : Nat} {x : Pt} (h : Bv w q x) (k : Below n w w') (hq : q < n) : Bv w' q x := h.keep (k.block q hq)
theorem Bv.lt {w : World} {q : Nat} {x : Pt} (h : Bv w q x) : q < w.heap.size := World.block_lt_of_cell? w _ h.c0
theorem ES (w : World) (t : TypeId) (x : Pt) : Bv (w.alloc (Obj.cells #[.bool x.up, .bool x.has, ji x.r, ji x.c, ji x.b, ji x.p, ji x.h, ji x.l, ji x.ro, ji x.wa, .bool x.op] t)) w.heap.size x := by
 refine ⟨?_, ?_, ?_, ?_, ?_, ?_, ?_, ?_, ?_, ?_, ?_⟩ <;> simp [go_sem]
structure An (w : World) (q : Nat) (x : Pt) : Prop where
 at_ : Bv w q x
 fr : ∀ i, w.frozen? (ja q i) = false
theorem An.keep {w w' : World} {q : Nat} {x : Pt} (h : An w q x) (k : w'.heap[q]? = w.heap[q]?) : An w' q x :=
 ⟨h.at_.keep k, fun i => (World.frozen?_of_block (a := (ja q i)) k).trans (h.fr i)⟩
theorem An.lt {w : World} {q : Nat} {x : Pt} (h : An w q x) : q < w.heap.size := h.at_.lt
theorem An.below {w w' : World} {q n : Nat} {x : Pt} (h : An w q x) (g : Below n w w') (hq : q < n) : An w' q x := h.keep (g.block q hq)
theorem An.other {w : World} {q q' i : Nat} {x : Pt} {v : Value} (h : An w q x) (hne : q ≠ q') : An (w.setCell ⟨q', i, none⟩ v) q x := h.keep (AF hne)
theorem Aj {w : World} {q i : Nat} {u v : Value} (h : w.cell? (ja q i) = some u) : (w.setCell (ja q i) v).cell? (ja q i) = some v := Gm ⟨_, h⟩
theorem AA {w : World} {q i j : Nat} {v : Value} (h : i ≠ j) : (w.setCell (ja q i) v).cell? (ja q j) = w.cell? (ja q j) := Gr (Ne.symm h)
theorem An.set0 {w : World} {q : Nat} {x : Pt} (z : Bool) (h : An w q x) : An (w.setCell (ja q 0) (.bool z)) q { x with up := z } :=
 ⟨⟨Aj h.at_.c0, (AA (by decide)).trans h.at_.c1, (AA (by decide)).trans h.at_.c2, (AA (by decide)).trans h.at_.c3, (AA (by decide)).trans h.at_.c4, (AA (by decide)).trans h.at_.c5, (AA (by decide)).trans h.at_.c6, (AA (by decide)).trans h.at_.c7, (AA (by decide)).trans h.at_.c8, (AA (by decide)).trans h.at_.c9, (AA (by decide)).trans h.at_.c10⟩, fun i => by rw [World.frozen?_setCell]; exact h.fr i⟩
theorem An.set1 {w : World} {q : Nat} {x : Pt} (z : Bool) (h : An w q x) : An (w.setCell (ja q 1) (.bool z)) q { x with has := z } :=
 ⟨⟨(AA (by decide)).trans h.at_.c0, Aj h.at_.c1, (AA (by decide)).trans h.at_.c2, (AA (by decide)).trans h.at_.c3, (AA (by decide)).trans h.at_.c4, (AA (by decide)).trans h.at_.c5, (AA (by decide)).trans h.at_.c6, (AA (by decide)).trans h.at_.c7, (AA (by decide)).trans h.at_.c8, (AA (by decide)).trans h.at_.c9, (AA (by decide)).trans h.at_.c10⟩, fun i => by rw [World.frozen?_setCell]; exact h.fr i⟩
theorem An.set2 {w : World} {q : Nat} {x : Pt} (z : Int) (h : An w q x) : An (w.setCell (ja q 2) (ji z)) q { x with r := z } :=
 ⟨⟨(AA (by decide)).trans h.at_.c0, (AA (by decide)).trans h.at_.c1, Aj h.at_.c2, (AA (by decide)).trans h.at_.c3, (AA (by decide)).trans h.at_.c4, (AA (by decide)).trans h.at_.c5, (AA (by decide)).trans h.at_.c6, (AA (by decide)).trans h.at_.c7, (AA (by decide)).trans h.at_.c8, (AA (by decide)).trans h.at_.c9, (AA (by decide)).trans h.at_.c10⟩, fun i => by rw [World.frozen?_setCell]; exact h.fr i⟩
theorem An.set3 {w : World} {q : Nat} {x : Pt} (z : Int) (h : An w q x) : An (w.setCell (ja q 3) (ji z)) q { x with c := z } :=
 ⟨⟨(AA (by decide)).trans h.at_.c0, (AA (by decide)).trans h.at_.c1, (AA (by decide)).trans h.at_.c2, Aj h.at_.c3, (AA (by decide)).trans h.at_.c4, (AA (by decide)).trans h.at_.c5, (AA (by decide)).trans h.at_.c6, (AA (by decide)).trans h.at_.c7, (AA (by decide)).trans h.at_.c8, (AA (by decide)).trans h.at_.c9, (AA (by decide)).trans h.at_.c10⟩, fun i => by rw [World.frozen?_setCell]; exact h.fr i⟩
theorem An.set4 {w : World} {q : Nat} {x : Pt} (z : Int) (h : An w q x) : An (w.setCell (ja q 4) (ji z)) q { x with b := z } :=
 ⟨⟨(AA (by decide)).trans h.at_.c0, (AA (by decide)).trans h.at_.c1, (AA (by decide)).trans h.at_.c2, (AA (by decide)).trans h.at_.c3, Aj h.at_.c4, (AA (by decide)).trans h.at_.c5, (AA (by decide)).trans h.at_.c6, (AA (by decide)).trans h.at_.c7, (AA (by decide)).trans h.at_.c8, (AA (by decide)).trans h.at_.c9, (AA (by decide)).trans h.at_.c10⟩, fun i => by rw [World.frozen?_setCell]; exact h.fr i⟩
theorem An.set5 {w : World} {q : Nat} {x : Pt} (z : Int) (h : An w q x) : An (w.setCell (ja q 5) (ji z)) q { x with p := z } :=
 ⟨⟨(AA (by decide)).trans h.at_.c0, (AA (by decide)).trans h.at_.c1, (AA (by decide)).trans h.at_.c2, (AA (by decide)).trans h.at_.c3, (AA (by decide)).trans h.at_.c4, Aj h.at_.c5, (AA (by decide)).trans h.at_.c6, (AA (by decide)).trans h.at_.c7, (AA (by decide)).trans h.at_.c8, (AA (by decide)).trans h.at_.c9, (AA (by decide)).trans h.at_.c10⟩, fun i => by rw [World.frozen?_setCell]; exact h.fr i⟩
theorem An.set6 {w : World} {q : Nat} {x : Pt} (z : Int) (h : An w q x) : An (w.setCell (ja q 6) (ji z)) q { x with h := z } :=
 ⟨⟨(AA (by decide)).trans h.at_.c0, (AA (by decide)).trans h.at_.c1, (AA (by decide)).trans h.at_.c2, (AA (by decide)).trans h.at_.c3, (AA (by decide)).trans h.at_.c4, (AA (by decide)).trans h.at_.c5, Aj h.at_.c6, (AA (by decide)).trans h.at_.c7, (AA (by decide)).trans h.at_.c8, (AA (by decide)).trans h.at_.c9, (AA (by decide)).trans h.at_.c10⟩, fun i => by rw [World.frozen?_setCell]; exact h.fr i⟩
theorem An.set7 {w : World} {q : Nat} {x : Pt} (z : Int) (h : An w q x) : An (w.setCell (ja q 7) (ji z)) q { x with l := z } :=
 ⟨⟨(AA (by decide)).trans h.at_.c0, (AA (by decide)).trans h.at_.c1, (AA (by decide)).trans h.at_.c2, (AA (by decide)).trans h.at_.c3, (AA (by decide)).trans h.at_.c4, (AA (by decide)).trans h.at_.c5, (AA (by decide)).trans h.at_.c6, Aj h.at_.c7, (AA (by decide)).trans h.at_.c8, (AA (by decide)).trans h.at_.c9, (AA (by decide)).trans h.at_.c10⟩, fun i => by rw [World.frozen?_setCell]; exact h.fr i⟩
theorem An.set8 {w : World} {q : Nat} {x : Pt} (z : Int) (h : An w q x) : An (w.setCell (ja q 8) (ji z)) q { x with ro := z } :=
 ⟨⟨(AA (by decide)).trans h.at_.c0, (AA (by decide)).trans h.at_.c1, (AA (by decide)).trans h.at_.c2, (AA (by decide)).trans h.at_.c3, (AA (by decide)).trans h.at_.c4, (AA (by decide)).trans h.at_.c5, (AA (by decide)).trans h.at_.c6, (AA (by decide)).trans h.at_.c7, Aj h.at_.c8, (AA (by decide)).trans h.at_.c9, (AA (by decide)).trans h.at_.c10⟩, fun i => by rw [World.frozen?_setCell]; exact h.fr i⟩
theorem An.set9 {w : World} {q : Nat} {x : Pt} (z : Int) (h : An w q x) : An (w.setCell (ja q 9) (ji z)) q { x with wa := z } :=
 ⟨⟨(AA (by decide)).trans h.at_.c0, (AA (by decide)).trans h.at_.c1, (AA (by decide)).trans h.at_.c2, (AA (by decide)).trans h.at_.c3, (AA (by decide)).trans h.at_.c4, (AA (by decide)).trans h.at_.c5, (AA (by decide)).trans h.at_.c6, (AA (by decide)).trans h.at_.c7, (AA (by decide)).trans h.at_.c8, Aj h.at_.c9, (AA (by decide)).trans h.at_.c10⟩, fun i => by rw [World.frozen?_setCell]; exact h.fr i⟩
theorem An.set10 {w : World} {q : Nat} {x : Pt} (z : Bool) (h : An w q x) : An (w.setCell (ja q 10) (.bool z)) q { x with op := z } :=
 ⟨⟨(AA (by decide)).trans h.at_.c0, (AA (by decide)).trans h.at_.c1, (AA (by decide)).trans h.at_.c2, (AA (by decide)).trans h.at_.c3, (AA (by decide)).trans h.at_.c4, (AA (by decide)).trans h.at_.c5, (AA (by decide)).trans h.at_.c6, (AA (by decide)).trans h.at_.c7, (AA (by decide)).trans h.at_.c8, (AA (by decide)).trans h.at_.c9, Aj h.at_.c10⟩, fun i => by rw [World.frozen?_setCell]; exact h.fr i⟩
def FJ (x y : Pt) : Bool := decide (x.up = y.up ∧ x.has = y.has ∧ x.r = y.r ∧ x.c = y.c ∧ x.b = y.b ∧ x.p = y.p ∧ x.h = y.h ∧ x.l = y.l ∧ x.ro = y.ro ∧ x.wa = y.wa ∧ x.op = y.op)
def CY (ro : Int) : Bool := decide (1 ≤ ro ∧ ro ≤ 3)
def Cm (ro : Int) : Bool := decide (0 ≤ ro ∧ ro ≤ 3)
def BG (ro wa : Int) : Bool := decide ((ro = 1 ∨ ro = 2) ∧ wa = 0)
theorem HH (h : Int) (w : World) : Calls prog 182 #[ji h] w fun e w' => e = .returned (.bool (decide (0 ≤ h ∧ h ≤ 8))) ∧ w' = w := by
 by_cases h0 : 0 ≤ h
 focus
  by_cases h1 : h ≤ 8
  focus
   rw [decide_eq_true ⟨h0, h1⟩]
  rotate_left;focus
   have d1 : decide (h ≤ 8) = false := decide_eq_false h1;rw [decide_eq_false (fun q => h1 q.2)]
  rotate_left
 rotate_left 2;focus
  have d0 : decide (0 ≤ h) = false := decide_eq_false h0;rw [decide_eq_false (fun q => h0 q.1)]
 rotate_left;all_goals
  go_enter func182, ntmps182
  go_wp2
  go_ret
  exact ⟨rfl, rfl⟩
theorem II (ro wa : Int) (w : World) : Calls prog 154 #[ji ro, ji wa] w fun e w' => e = .returned (.tuple #[.bool (CY ro), .bool (BG ro wa), .bool (Cm ro)]) ∧ w' = w := by
 by_cases h1 : ro = 1
 focus
  by_cases hw : wa = 0
  focus
   have fw : (wa == 0) = true := by simp; omega
   have f0 : (ro == 0) = false := by simp; omega
   have f1 : (ro == 1) = true := by simp; omega
   have f2 : (ro == 2) = false := by simp; omega
   have f3 : (ro == 3) = false := by simp; omega
   rw [show CY ro = true by simp [CY]; try omega, show Cm ro = true by simp [Cm]; try omega, show BG ro wa = true by simp [BG]; try omega]
  rotate_left;focus
   have fw : (wa == 0) = false := by simp; omega
   have f0 : (ro == 0) = false := by simp; omega
   have f1 : (ro == 1) = true := by simp; omega
   have f2 : (ro == 2) = false := by simp; omega
   have f3 : (ro == 3) = false := by simp; omega
   rw [show CY ro = true by simp [CY]; try omega, show Cm ro = true by simp [Cm]; try omega, show BG ro wa = false by simp [BG]; try omega]
  rotate_left
 rotate_left 2;by_cases h2 : ro = 2
 focus
  by_cases hw : wa = 0
  focus
   have fw : (wa == 0) = true := by simp; omega
   have f0 : (ro == 0) = false := by simp; omega
   have f1 : (ro == 1) = false := by simp; omega
   have f2 : (ro == 2) = true := by simp; omega
   have f3 : (ro == 3) = false := by simp; omega
   rw [show CY ro = true by simp [CY]; try omega, show Cm ro = true by simp [Cm]; try omega, show BG ro wa = true by simp [BG]; try omega]
  rotate_left;focus
   have fw : (wa == 0) = false := by simp; omega
   have f0 : (ro == 0) = false := by simp; omega
   have f1 : (ro == 1) = false := by simp; omega
   have f2 : (ro == 2) = true := by simp; omega
   have f3 : (ro == 3) = false := by simp; omega
   rw [show CY ro = true by simp [CY]; try omega, show Cm ro = true by simp [Cm]; try omega, show BG ro wa = false by simp [BG]; try omega]
  rotate_left
 rotate_left 2;by_cases h3 : ro = 3
 focus
  skip
  have f0 : (ro == 0) = false := by simp; omega
  have f1 : (ro == 1) = false := by simp; omega
  have f2 : (ro == 2) = false := by simp; omega
  have f3 : (ro == 3) = true := by simp; omega
  rw [show CY ro = true by simp [CY]; try omega, show Cm ro = true by simp [Cm]; try omega, show BG ro wa = false by simp [BG]; try omega]
 rotate_left;by_cases h0 : ro = 0
 focus
  skip
  have f0 : (ro == 0) = true := by simp; omega
  have f1 : (ro == 1) = false := by simp; omega
  have f2 : (ro == 2) = false := by simp; omega
  have f3 : (ro == 3) = false := by simp; omega
  rw [show CY ro = false by simp [CY]; try omega, show Cm ro = true by simp [Cm]; try omega, show BG ro wa = false by simp [BG]; try omega]
 rotate_left;have f0 : (ro == 0) = false := by simp; omega
 have f1 : (ro == 1) = false := by simp; omega
 have f2 : (ro == 2) = false := by simp; omega
 have f3 : (ro == 3) = false := by simp; omega
 rw [show CY ro = false by simp [CY]; try omega, show Cm ro = false by simp [Cm]; try omega, show BG ro wa = false by simp [BG]; try omega];all_goals
  go_enter func154, ntmps154
  go_wp2
  refine bodyPost_ret (by simp [results, results154, go_sem]) rfl ⟨rfl, rfl⟩
theorem H9 (x : Pt) (w : World) : Calls prog 180 #[.agg #[.bool x.up, .bool x.has, ji x.r, ji x.c, ji x.b, ji x.p, ji x.h, ji x.l, ji x.ro, ji x.wa, .bool x.op]] w fun e w' => e = .returned (.agg #[.bool x.up, .bool false, ji 0, ji 0, ji 0, ji 0, ji 0, ji 0, ji x.ro, ji x.wa, .bool x.op]) ∧ Bw w w' := by
 go_enter func180, ntmps180
 go_wp2
 refine bodyPost_ret (v := .agg #[.bool x.up, .bool false, ji 0, ji 0, ji 0, ji 0, ji 0, ji 0, ji x.ro, ji x.wa, .bool x.op]) (by simp [results, results180, go_sem]) rfl ⟨rfl, ?_⟩;exact ((Below.refl _ _).alloc (Nat.le_refl _) _).alloc (by simp) _
end Go.Proofs.YtjmnaeeknomiaaaGreat
