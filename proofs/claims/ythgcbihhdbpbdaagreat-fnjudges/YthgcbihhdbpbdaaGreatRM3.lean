import Derived.Deep.Cut
import Derived.Test.YthgcbihhdbpbdaaGreatRKWVec2
import Derived.Test.YthgcbihhdbpbdaaGreatRKWVecIn
namespace Go.Proofs.YthgcbihhdbpbdaaGreat
open Go.ChangeShapes Go.WideShapes Go.ChangeAt Go.RowKit
open Go.ChangeMaps (open_string shut_string)
set_option linter.unusedVariables false
set_option maxRecDepth 100000
set_option maxHeartbeats 32000000
set_option linter.unusedSimpArgs false
open Go.Proofs.Tryz
attribute [local go_sem] ji ja
structure Pt where
 up : Bool
 has : Bool
 r : Int
 c : Int
 b : Int
 p : Int
 h : Int
 l : Int
 ro : Int
 wa : Int
 op : Bool
abbrev pc (x : Pt) : Array Value := #[.bool x.up, .bool x.has, ji x.r, ji x.c, ji x.b, ji x.p, ji x.h, ji x.l, ji x.ro, ji x.wa, .bool x.op]
attribute [local go_sem] pc
structure Bo (w : World) (q : Nat) (x : Pt) : Prop where
 c0 : w.cell? (ja q 0) = some (.bool x.up)
 c1 : w.cell? (ja q 1) = some (.bool x.has)
 c2 : w.cell? (ja q 2) = some (ji x.r)
 c3 : w.cell? (ja q 3) = some (ji x.c)
 c4 : w.cell? (ja q 4) = some (ji x.b)
 c5 : w.cell? (ja q 5) = some (ji x.p)
 c6 : w.cell? (ja q 6) = some (ji x.h)
 c7 : w.cell? (ja q 7) = some (ji x.l)
 c8 : w.cell? (ja q 8) = some (ji x.ro)
 c9 : w.cell? (ja q 9) = some (ji x.wa)
 c10 : w.cell? (ja q 10) = some (.bool x.op)
theorem Bo.all {w : World} {q : Nat} {x : Pt} (h : Bo w q x) : w.cell? (ja q 0) = some (.bool x.up) ∧ w.cell? (ja q 1) = some (.bool x.has) ∧ w.cell? (ja q 2) = some (ji x.r) ∧ w.cell? (ja q 3) = some (ji x.c) ∧ w.cell? (ja q 4) = some (ji x.b) ∧ w.cell? (ja q 5) = some (ji x.p) ∧ w.cell? (ja q 6) = some (ji x.h) ∧ w.cell? (ja q 7) = some (ji x.l) ∧ w.cell? (ja q 8) = some (ji x.ro) ∧ w.cell? (ja q 9) = some (ji x.wa) ∧ w.cell? (ja q 10) = some (.bool x.op) := ⟨h.c0, h.c1, h.c2, h.c3, h.c4, h.c5, h.c6, h.c7, h.c8, h.c9, h.c10⟩
theorem Bo.keep {w w' : World} {q : Nat} {x : Pt} (h : Bo w q x) (k : w'.heap[q]? = w.heap[q]?) : Bo w' q x :=
 ⟨(World.cell?_of_block (a := (ja q 0)) k).trans h.c0, (World.cell?_of_block (a := (ja q 1)) k).trans h.c1, (World.cell?_of_block (a := (ja q 2)) k).trans h.c2, (World.cell?_of_block (a := (ja q 3)) k).trans h.c3, (World.cell?_of_block (a := (ja q 4)) k).trans h.c4, (World.cell?_of_block (a := (ja q 5)) k).trans h.c5, (World.cell?_of_block (a := (ja q 6)) k).trans h.c6, (World.cell?_of_block (a := (ja q 7)) k).trans h.c7, (World.cell?_of_block (a := (ja q 8)) k).trans h.c8, (World.cell?_of_block (a := (ja q 9)) k).trans h.c9, (World.cell?_of_block (a := (ja q 10)) k).trans h.c10⟩
theorem Bo.below {w w' : World} {q n : Nat} {x : Pt} (h : Bo w q x) (k : Below n w w') (hq : q < n) : Bo w' q x := h.keep (k.block q hq)
theorem Bo.lt {w : World} {q : Nat} {x : Pt} (h : Bo w q x) : q < w.heap.size := World.block_lt_of_cell? w _ h.c0
theorem Df (w : World) (t : TypeId) (x : Pt) : Bo (w.alloc (Obj.cells #[.bool x.up, .bool x.has, ji x.r, ji x.c, ji x.b, ji x.p, ji x.h, ji x.l, ji x.ro, ji x.wa, .bool x.op] t)) w.heap.size x := by
 refine ⟨?_, ?_, ?_, ?_, ?_, ?_, ?_, ?_, ?_, ?_, ?_⟩ <;> simp [go_sem]
structure Ae (w : World) (q : Nat) (x : Pt) : Prop where
 at_ : Bo w q x
 fr : ∀ i, w.frozen? (ja q i) = false
theorem Ae.keep {w w' : World} {q : Nat} {x : Pt} (h : Ae w q x) (k : w'.heap[q]? = w.heap[q]?) : Ae w' q x :=
 ⟨h.at_.keep k, fun i => (World.frozen?_of_block (a := (ja q i)) k).trans (h.fr i)⟩
theorem Ae.lt {w : World} {q : Nat} {x : Pt} (h : Ae w q x) : q < w.heap.size := h.at_.lt
theorem Ae.below {w w' : World} {q n : Nat} {x : Pt} (h : Ae w q x) (g : Below n w w') (hq : q < n) : Ae w' q x := h.keep (g.block q hq)
theorem Ae.other {w : World} {q q' i : Nat} {x : Pt} {v : Value} (h : Ae w q x) (hne : q ≠ q') : Ae (w.setCell ⟨q', i, none⟩ v) q x := h.keep (AE hne)
theorem Aj {w : World} {q i : Nat} {u v : Value} (h : w.cell? (ja q i) = some u) : (w.setCell (ja q i) v).cell? (ja q i) = some v := HE ⟨_, h⟩
theorem AC {w : World} {q i j : Nat} {v : Value} (h : i ≠ j) : (w.setCell (ja q i) v).cell? (ja q j) = w.cell? (ja q j) := HI (Ne.symm h)
theorem Ae.set0 {w : World} {q : Nat} {x : Pt} (z : Bool) (h : Ae w q x) : Ae (w.setCell (ja q 0) (.bool z)) q { x with up := z } :=
 ⟨⟨Aj h.at_.c0, (AC (by decide)).trans h.at_.c1, (AC (by decide)).trans h.at_.c2, (AC (by decide)).trans h.at_.c3, (AC (by decide)).trans h.at_.c4, (AC (by decide)).trans h.at_.c5, (AC (by decide)).trans h.at_.c6, (AC (by decide)).trans h.at_.c7, (AC (by decide)).trans h.at_.c8, (AC (by decide)).trans h.at_.c9, (AC (by decide)).trans h.at_.c10⟩, fun i => by rw [World.frozen?_setCell]; exact h.fr i⟩
theorem Ae.set1 {w : World} {q : Nat} {x : Pt} (z : Bool) (h : Ae w q x) : Ae (w.setCell (ja q 1) (.bool z)) q { x with has := z } :=
 ⟨⟨(AC (by decide)).trans h.at_.c0, Aj h.at_.c1, (AC (by decide)).trans h.at_.c2, (AC (by decide)).trans h.at_.c3, (AC (by decide)).trans h.at_.c4, (AC (by decide)).trans h.at_.c5, (AC (by decide)).trans h.at_.c6, (AC (by decide)).trans h.at_.c7, (AC (by decide)).trans h.at_.c8, (AC (by decide)).trans h.at_.c9, (AC (by decide)).trans h.at_.c10⟩, fun i => by rw [World.frozen?_setCell]; exact h.fr i⟩
theorem Ae.set2 {w : World} {q : Nat} {x : Pt} (z : Int) (h : Ae w q x) : Ae (w.setCell (ja q 2) (ji z)) q { x with r := z } :=
 ⟨⟨(AC (by decide)).trans h.at_.c0, (AC (by decide)).trans h.at_.c1, Aj h.at_.c2, (AC (by decide)).trans h.at_.c3, (AC (by decide)).trans h.at_.c4, (AC (by decide)).trans h.at_.c5, (AC (by decide)).trans h.at_.c6, (AC (by decide)).trans h.at_.c7, (AC (by decide)).trans h.at_.c8, (AC (by decide)).trans h.at_.c9, (AC (by decide)).trans h.at_.c10⟩, fun i => by rw [World.frozen?_setCell]; exact h.fr i⟩
theorem Ae.set3 {w : World} {q : Nat} {x : Pt} (z : Int) (h : Ae w q x) : Ae (w.setCell (ja q 3) (ji z)) q { x with c := z } :=
 ⟨⟨(AC (by decide)).trans h.at_.c0, (AC (by decide)).trans h.at_.c1, (AC (by decide)).trans h.at_.c2, Aj h.at_.c3, (AC (by decide)).trans h.at_.c4, (AC (by decide)).trans h.at_.c5, (AC (by decide)).trans h.at_.c6, (AC (by decide)).trans h.at_.c7, (AC (by decide)).trans h.at_.c8, (AC (by decide)).trans h.at_.c9, (AC (by decide)).trans h.at_.c10⟩, fun i => by rw [World.frozen?_setCell]; exact h.fr i⟩
theorem Ae.set4 {w : World} {q : Nat} {x : Pt} (z : Int) (h : Ae w q x) : Ae (w.setCell (ja q 4) (ji z)) q { x with b := z } :=
 ⟨⟨(AC (by decide)).trans h.at_.c0, (AC (by decide)).trans h.at_.c1, (AC (by decide)).trans h.at_.c2, (AC (by decide)).trans h.at_.c3, Aj h.at_.c4, (AC (by decide)).trans h.at_.c5, (AC (by decide)).trans h.at_.c6, (AC (by decide)).trans h.at_.c7, (AC (by decide)).trans h.at_.c8, (AC (by decide)).trans h.at_.c9, (AC (by decide)).trans h.at_.c10⟩, fun i => by rw [World.frozen?_setCell]; exact h.fr i⟩
theorem Ae.set5 {w : World} {q : Nat} {x : Pt} (z : Int) (h : Ae w q x) : Ae (w.setCell (ja q 5) (ji z)) q { x with p := z } :=
 ⟨⟨(AC (by decide)).trans h.at_.c0, (AC (by decide)).trans h.at_.c1, (AC (by decide)).trans h.at_.c2, (AC (by decide)).trans h.at_.c3, (AC (by decide)).trans h.at_.c4, Aj h.at_.c5, (AC (by decide)).trans h.at_.c6, (AC (by decide)).trans h.at_.c7, (AC (by decide)).trans h.at_.c8, (AC (by decide)).trans h.at_.c9, (AC (by decide)).trans h.at_.c10⟩, fun i => by rw [World.frozen?_setCell]; exact h.fr i⟩
theorem Ae.set6 {w : World} {q : Nat} {x : Pt} (z : Int) (h : Ae w q x) : Ae (w.setCell (ja q 6) (ji z)) q { x with h := z } :=
 ⟨⟨(AC (by decide)).trans h.at_.c0, (AC (by decide)).trans h.at_.c1, (AC (by decide)).trans h.at_.c2, (AC (by decide)).trans h.at_.c3, (AC (by decide)).trans h.at_.c4, (AC (by decide)).trans h.at_.c5, Aj h.at_.c6, (AC (by decide)).trans h.at_.c7, (AC (by decide)).trans h.at_.c8, (AC (by decide)).trans h.at_.c9, (AC (by decide)).trans h.at_.c10⟩, fun i => by rw [World.frozen?_setCell]; exact h.fr i⟩
theorem Ae.set7 {w : World} {q : Nat} {x : Pt} (z : Int) (h : Ae w q x) : Ae (w.setCell (ja q 7) (ji z)) q { x with l := z } :=
 ⟨⟨(AC (by decide)).trans h.at_.c0, (AC (by decide)).trans h.at_.c1, (AC (by decide)).trans h.at_.c2, (AC (by decide)).trans h.at_.c3, (AC (by decide)).trans h.at_.c4, (AC (by decide)).trans h.at_.c5, (AC (by decide)).trans h.at_.c6, Aj h.at_.c7, (AC (by decide)).trans h.at_.c8, (AC (by decide)).trans h.at_.c9, (AC (by decide)).trans h.at_.c10⟩, fun i => by rw [World.frozen?_setCell]; exact h.fr i⟩
theorem Ae.set8 {w : World} {q : Nat} {x : Pt} (z : Int) (h : Ae w q x) : Ae (w.setCell (ja q 8) (ji z)) q { x with ro := z } :=
 ⟨⟨(AC (by decide)).trans h.at_.c0, (AC (by decide)).trans h.at_.c1, (AC (by decide)).trans h.at_.c2, (AC (by decide)).trans h.at_.c3, (AC (by decide)).trans h.at_.c4, (AC (by decide)).trans h.at_.c5, (AC (by decide)).trans h.at_.c6, (AC (by decide)).trans h.at_.c7, Aj h.at_.c8, (AC (by decide)).trans h.at_.c9, (AC (by decide)).trans h.at_.c10⟩, fun i => by rw [World.frozen?_setCell]; exact h.fr i⟩
theorem Ae.set9 {w : World} {q : Nat} {x : Pt} (z : Int) (h : Ae w q x) : Ae (w.setCell (ja q 9) (ji z)) q { x with wa := z } :=
 ⟨⟨(AC (by decide)).trans h.at_.c0, (AC (by decide)).trans h.at_.c1, (AC (by decide)).trans h.at_.c2, (AC (by decide)).trans h.at_.c3, (AC (by decide)).trans h.at_.c4, (AC (by decide)).trans h.at_.c5, (AC (by decide)).trans h.at_.c6, (AC (by decide)).trans h.at_.c7, (AC (by decide)).trans h.at_.c8, Aj h.at_.c9, (AC (by decide)).trans h.at_.c10⟩, fun i => by rw [World.frozen?_setCell]; exact h.fr i⟩
theorem Ae.set10 {w : World} {q : Nat} {x : Pt} (z : Bool) (h : Ae w q x) : Ae (w.setCell (ja q 10) (.bool z)) q { x with op := z } :=
 ⟨⟨(AC (by decide)).trans h.at_.c0, (AC (by decide)).trans h.at_.c1, (AC (by decide)).trans h.at_.c2, (AC (by decide)).trans h.at_.c3, (AC (by decide)).trans h.at_.c4, (AC (by decide)).trans h.at_.c5, (AC (by decide)).trans h.at_.c6, (AC (by decide)).trans h.at_.c7, (AC (by decide)).trans h.at_.c8, (AC (by decide)).trans h.at_.c9, Aj h.at_.c10⟩, fun i => by rw [World.frozen?_setCell]; exact h.fr i⟩
def Fa (x y : Pt) : Bool := decide (x.up = y.up ∧ x.has = y.has ∧ x.r = y.r ∧ x.c = y.c ∧ x.b = y.b ∧ x.p = y.p ∧ x.h = y.h ∧ x.l = y.l ∧ x.ro = y.ro ∧ x.wa = y.wa ∧ x.op = y.op)
def Cb (ro : Int) : Bool := decide (1 ≤ ro ∧ ro ≤ 3)
def Cv (ro : Int) : Bool := decide (0 ≤ ro ∧ ro ≤ 3)
def BC (ro wa : Int) : Bool := decide ((ro = 1 ∨ ro = 2) ∧ wa = 0)
theorem GW (h : Int) (w : World) : Calls prog 182 #[ji h] w fun e w' => e = .returned (.bool (decide (0 ≤ h ∧ h ≤ 8))) ∧ w' = w := by
 by_cases h0 : 0 ≤ h
 focus
  by_cases h1 : h ≤ 8
  focus
   rw [decide_eq_true ⟨h0, h1⟩]
  rotate_left;focus
   have d1 : decide (h ≤ 8) = false := decide_eq_false h1;rw [decide_eq_false (fun q => h1 q.2)]
  rotate_left
 rotate_left 2;focus
  have d0 : decide (0 ≤ h) = false := decide_eq_false h0;rw [decide_eq_false (fun q => h0 q.1)]
 rotate_left;all_goals
  go_enter func182, ntmps182
  go_wp2
  go_ret
  exact ⟨rfl, rfl⟩
theorem HX (ro wa : Int) (w : World) : Calls prog 154 #[ji ro, ji wa] w fun e w' => e = .returned (.tuple #[.bool (Cb ro), .bool (BC ro wa), .bool (Cv ro)]) ∧ w' = w := by
 by_cases h1 : ro = 1
 focus
  by_cases hw : wa = 0
  focus
   have fw : (wa == 0) = true := by simp; omega
   have f0 : (ro == 0) = false := by simp; omega
   have f1 : (ro == 1) = true := by simp; omega
   have f2 : (ro == 2) = false := by simp; omega
   have f3 : (ro == 3) = false := by simp; omega
   rw [show Cb ro = true by simp [Cb]; try omega, show Cv ro = true by simp [Cv]; try omega, show BC ro wa = true by simp [BC]; try omega]
  rotate_left;focus
   have fw : (wa == 0) = false := by simp; omega
   have f0 : (ro == 0) = false := by simp; omega
   have f1 : (ro == 1) = true := by simp; omega
   have f2 : (ro == 2) = false := by simp; omega
   have f3 : (ro == 3) = false := by simp; omega
   rw [show Cb ro = true by simp [Cb]; try omega, show Cv ro = true by simp [Cv]; try omega, show BC ro wa = false by simp [BC]; try omega]
  rotate_left
 rotate_left 2;by_cases h2 : ro = 2
 focus
  by_cases hw : wa = 0
  focus
   have fw : (wa == 0) = true := by simp; omega
   have f0 : (ro == 0) = false := by simp; omega
   have f1 : (ro == 1) = false := by simp; omega
   have f2 : (ro == 2) = true := by simp; omega
   have f3 : (ro == 3) = false := by simp; omega
   rw [show Cb ro = true by simp [Cb]; try omega, show Cv ro = true by simp [Cv]; try omega, show BC ro wa = true by simp [BC]; try omega]
  rotate_left;focus
   have fw : (wa == 0) = false := by simp; omega
   have f0 : (ro == 0) = false := by simp; omega
   have f1 : (ro == 1) = false := by simp; omega
   have f2 : (ro == 2) = true := by simp; omega
   have f3 : (ro == 3) = false := by simp; omega
   rw [show Cb ro = true by simp [Cb]; try omega, show Cv ro = true by simp [Cv]; try omega, show BC ro wa = false by simp [BC]; try omega]
  rotate_left
 rotate_left 2;by_cases h3 : ro = 3
 focus
  skip
  have f0 : (ro == 0) = false := by simp; omega
  have f1 : (ro == 1) = false := by simp; omega
  have f2 : (ro == 2) = false := by simp; omega
  have f3 : (ro == 3) = true := by simp; omega
  rw [show Cb ro = true by simp [Cb]; try omega, show Cv ro = true by simp [Cv]; try omega, show BC ro wa = false by simp [BC]; try omega]
 rotate_left;by_cases h0 : ro = 0
 focus
  skip
  have f0 : (ro == 0) = true := by simp; omega
  have f1 : (ro == 1) = false := by simp; omega
  have f2 : (ro == 2) = false := by simp; omega
  have f3 : (ro == 3) = false := by simp; omega
  rw [show Cb ro = false by simp [Cb]; try omega, show Cv ro = true by simp [Cv]; try omega, show BC ro wa = false by simp [BC]; try omega]
 rotate_left;have f0 : (ro == 0) = false := by simp; omega
 have f1 : (ro == 1) = false := by simp; omega
 have f2 : (ro == 2) = false := by simp; omega
 have f3 : (ro == 3) = false := by simp; omega
 rw [show Cb ro = false by simp [Cb]; try omega, show Cv ro = false by simp [Cv]; try omega, show BC ro wa = false by simp [BC]; try omega];all_goals
  go_enter func154, ntmps154
  go_wp2
  refine bodyPost_ret (by simp [results, results154, go_sem]) rfl ⟨rfl, rfl⟩
theorem HJ (x : Pt) (w : World) : Calls prog 180 #[.agg #[.bool x.up, .bool x.has, ji x.r, ji x.c, ji x.b, ji x.p, ji x.h, ji x.l, ji x.ro, ji x.wa, .bool x.op]] w fun e w' => e = .returned (.agg #[.bool x.up, .bool false, ji 0, ji 0, ji 0, ji 0, ji 0, ji 0, ji x.ro, ji x.wa, .bool x.op]) ∧ Bw w w' := by
 go_enter func180, ntmps180
 go_wp2
 refine bodyPost_ret (v := .agg #[.bool x.up, .bool false, ji 0, ji 0, ji 0, ji 0, ji 0, ji 0, ji x.ro, ji x.wa, .bool x.op]) (by simp [results, results180, go_sem]) rfl ⟨rfl, ?_⟩;exact ((Below.refl _ _).alloc (Nat.le_refl _) _).alloc (by simp) _
def Ca (x : Pt) : Bool := if x.has then x.up && (Af x.r x.c x.b x.p && (decide (0 ≤ x.h ∧ x.h ≤ 8) && decide (1 ≤ x.l ∧ x.l ≤ 3))) else decide (x.r = 0 ∧ x.c = 0 ∧ x.b = 0 ∧ x.p = 0 ∧ x.h = 0 ∧ x.l = 0)
def Ai (x : Pt) : Bool := Cv x.ro && ((x.up == Cb x.ro) && ((x.op == BC x.ro x.wa) && (decide (0 ≤ x.wa ∧ x.wa ≤ 4) && Ca x)))
def Pt.bare (x : Pt) : Pt := ⟨x.up, false, 0, 0, 0, 0, 0, 0, x.ro, x.wa, x.op⟩
theorem It (x : Pt) (w : World) : Calls prog 155 #[.agg #[.bool x.up, .bool x.has, ji x.r, ji x.c, ji x.b, ji x.p, ji x.h, ji x.l, ji x.ro, ji x.wa, .bool x.op]] w fun e w' => e = .returned (.bool (Ca x)) ∧ Bw w w' := by
 obtain ⟨up, has, r, c, b, p, h, l, ro, wa, op⟩ := x;dsimp only
 cases has
 ·
  have e1 : Ca ⟨up, false, r, c, b, p, h, l, ro, wa, op⟩ = Fa ⟨up, false, r, c, b, p, h, l, ro, wa, op⟩ ⟨up, false, 0, 0, 0, 0, 0, 0, ro, wa, op⟩ := by simp [Ca, Fa]
  rw [e1];clear e1;obtain ⟨y, hy⟩ := AB (w.alloc (Obj.cells #[.bool up, .bool false, ji r, ji c, ji b, ji p, ji h, ji l, ji ro, ji wa, .bool op] 70));have P0 : Bo y w.heap.size ⟨up, false, r, c, b, p, h, l, ro, wa, op⟩ := by rw [hy]; exact Df w _ ⟨up, false, r, c, b, p, h, l, ro, wa, op⟩
  have B0 : Bw w y := by rw [hy]; exact (Below.refl _ _).alloc (Nat.le_refl _) _
  have S0 : w.heap.size < y.heap.size := P0.lt;go_enter func155, ntmps155
  go_wp2
  rw [← hy];clear hy;refine wp_region_held (S := fun Y => Bw y Y) (by kernel_rfl) ?_;change wpAnyH _ _ _ _ _ _ _ _ (World.drew _);have hb0 : Bw y y.drew := (Below.refl _ _).drew;obtain ⟨y0, hy0⟩ : ∃ y', y' = y.drew := ⟨_, rfl⟩;rw [← hy0] at hb0 ⊢;clear hy0;refine tw 0 6 (.agg #[.bool up, .bool false, ji r, ji c, ji b, ji p, ji h, ji l, ji ro, ji wa, .bool op]) ?_ (hy := by intro Y hSw; obtain ⟨p0, p1, p2, p3, p4, p5, p6, p7, p8, p9, p10⟩ := P0.below hSw (by omega); go_simp);refine tw 1 7 (.agg #[.bool up, .bool false, ji r, ji c, ji b, ji p, ji h, ji l, ji ro, ji wa, .bool op]) ?_ (hy := by intro Y hSw; obtain ⟨p0, p1, p2, p3, p4, p5, p6, p7, p8, p9, p10⟩ := P0.below hSw (by omega); go_simp);refine wpAnyH_all (rs := [2]) (by kernel_rfl) (by simp) ?_;intro i hi; obtain rfl : i = 2 := by simpa using hi
  refine wpOp_step rfl (fun K hK => ?_);rw [if_pos (by kernel_rfl)];go_simp
  go_at_call 180
  refine (HJ ⟨up, false, r, c, b, p, h, l, ro, wa, op⟩ y0).mono ?_;rintro e y1 ⟨rfl, kq⟩;have hb1 := AA hb0 kq;clear kq;dsimp only
  refine hK _ _ ⟨hb1, ?_⟩;clear hK K hi;refine tw 3 9 (.bool (Fa ⟨up, false, r, c, b, p, h, l, ro, wa, op⟩ ⟨up, false, 0, 0, 0, 0, 0, 0, ro, wa, op⟩)) ?_ (hy := by intro Y hSw; go_simp; simp only [Fa]; (repeat' split) <;> simp_all);refine tw 4 2 (.bool (Fa ⟨up, false, r, c, b, p, h, l, ro, wa, op⟩ ⟨up, false, 0, 0, 0, 0, 0, 0, ro, wa, op⟩)) ?_;refine AM ?_;go_wp2
  go_ret
  exact ⟨rfl, AA B0 hb1⟩
 cases up
 ·
  rw [show Ca ⟨false, true, r, c, b, p, h, l, ro, wa, op⟩ = false by simp [Ca]];go_enter func155, ntmps155
  go_wp2
  go_ret
  exact ⟨rfl, (Below.refl _ _).alloc (Nat.le_refl _) _⟩
 have hR : Hid (Ca ⟨true, true, r, c, b, p, h, l, ro, wa, op⟩ = (Af r c b p && (decide (0 ≤ h ∧ h ≤ 8) && decide (1 ≤ l ∧ l ≤ 3)))) := by simp [Hid, Ca]
 generalize Ca ⟨true, true, r, c, b, p, h, l, ro, wa, op⟩ = R at hR ⊢
 obtain ⟨y, hy⟩ := AB (w.alloc (Obj.cells #[.bool true, .bool true, ji r, ji c, ji b, ji p, ji h, ji l, ji ro, ji wa, .bool op] 70));have P0 : Bo y w.heap.size ⟨true, true, r, c, b, p, h, l, ro, wa, op⟩ := by rw [hy]; exact Df w _ ⟨true, true, r, c, b, p, h, l, ro, wa, op⟩
 have B0 : Bw w y := by rw [hy]; exact (Below.refl _ _).alloc (Nat.le_refl _) _
 have S0 : w.heap.size < y.heap.size := P0.lt;go_enter func155, ntmps155
 go_wp2_with fail
 go_at_call 181
 rw [← hy];clear hy;refine (Gz r c b p y).mono ?_;rintro e w1 ⟨rfl, k1⟩;obtain ⟨p0, p1, p2, p3, p4, p5, p6, p7, p8, p9, p10⟩ := P0.below k1 S0;have B1 := AA B0 k1;clear P0 k1 B0;generalize Af r c b p = ok at hR ⊢
 cases ok
 ·
  go_wp2
  go_ret
  exact ⟨by rw [hR.out]; rfl, B1⟩
 go_wp2_with fail
 go_at_call 182
 refine (GW h w1).mono ?_;rintro e w2 ⟨rfl, rfl⟩;generalize decide (0 ≤ h ∧ h ≤ 8) = ok at hR ⊢
 cases ok
 ·
  go_wp2
  go_ret
  exact ⟨by rw [hR.out]; rfl, B1⟩
 by_cases l1 : 1 ≤ l
 rotate_left
 ·
  have d1 : decide (1 ≤ l) = false := decide_eq_false l1;replace hR : Hid (R = false) := hR.out.trans (by simp; omega);go_wp2
  go_ret
  exact ⟨by rw [hR.out]; rfl, B1⟩
 by_cases l3 : l ≤ 3
 rotate_left
 ·
  have d1 : decide (l ≤ 3) = false := decide_eq_false l3;replace hR : Hid (R = false) := hR.out.trans (by simp; omega);go_wp2
  go_ret
  exact ⟨by rw [hR.out]; rfl, B1⟩
 replace hR : Hid (R = true) := hR.out.trans (by simp; omega);go_wp2
 go_ret
 exact ⟨by rw [hR.out]; rfl, B1⟩
theorem BM (x lo hi : Int) (w : World) : Calls prog 65 #[ji x, ji lo, ji hi] w fun e w' => e = .returned (.bool (decide (lo ≤ x ∧ x ≤ hi))) ∧ w' = w := by
 by_cases h : lo ≤ x ∧ x ≤ hi
 ·
  rw [decide_eq_true h]; exact EU _ _ _ _ h
 rw [decide_eq_false h]; exact EW _ _ _ _ (by omega)
theorem GB (x : Pt) (w : World) : Calls prog 130 #[.agg #[.bool x.up, .bool x.has, ji x.r, ji x.c, ji x.b, ji x.p, ji x.h, ji x.l, ji x.ro, ji x.wa, .bool x.op]] w fun e w' => e = .returned (.bool (Ai x)) ∧ Bw w w' := by
 obtain ⟨up, has, r, c, b, p, h, l, ro, wa, op⟩ := x;dsimp only
 have hR : Hid (Ai ⟨up, has, r, c, b, p, h, l, ro, wa, op⟩ = (Cv ro && ((up == Cb ro) && ((op == BC ro wa) && (decide (0 ≤ wa ∧ wa ≤ 4) && Ca ⟨up, has, r, c, b, p, h, l, ro, wa, op⟩))))) := rfl;generalize Ai ⟨up, has, r, c, b, p, h, l, ro, wa, op⟩ = R at hR ⊢
 obtain ⟨y, hy⟩ := AB (w.alloc (Obj.cells #[.bool up, .bool has, ji r, ji c, ji b, ji p, ji h, ji l, ji ro, ji wa, .bool op] 70));have P0 : Bo y w.heap.size ⟨up, has, r, c, b, p, h, l, ro, wa, op⟩ := by rw [hy]; exact Df w _ ⟨up, has, r, c, b, p, h, l, ro, wa, op⟩
 have B0 : Bw w y := by rw [hy]; exact (Below.refl _ _).alloc (Nat.le_refl _) _
 have S0 : w.heap.size < y.heap.size := P0.lt;go_enter func130, ntmps130
 go_wp2_with fail
 go_at_call 154
 rw [← hy];clear hy;replace P0 := P0.all;refine (HX ro wa y).mono ?_;rintro e w1 ⟨rfl, rfl⟩;generalize Cv ro = o1 at hR ⊢
 generalize Cb ro = o2 at hR ⊢
 generalize BC ro wa = o3 at hR ⊢
 cases o1
 ·
  go_wp2
  go_ret
  exact ⟨by rw [hR.out]; rfl, B0⟩
 cases q2 : (up == o2)
 ·
  go_wp2
  go_ret
  exact ⟨by rw [hR.out, q2]; rfl, B0⟩
 cases q3 : (op == o3)
 ·
  go_wp2
  go_ret
  exact ⟨by rw [hR.out, q2, q3]; rfl, B0⟩
 by_cases h0 : 0 ≤ wa
 rotate_left
 ·
  have d0 : decide (0 ≤ wa) = false := decide_eq_false h0;replace hR : Hid (R = false) := hR.out.trans (by rw [decide_eq_false (fun q => h0 q.1), q2, q3]; rfl);go_wp2
  go_ret
  exact ⟨by rw [hR.out]; rfl, B0⟩
 by_cases h4 : wa ≤ 4
 rotate_left
 ·
  have d0 : decide (wa ≤ 4) = false := decide_eq_false h4;replace hR : Hid (R = false) := hR.out.trans (by rw [decide_eq_false (fun q => h4 q.2), q2, q3]; rfl);go_wp2
  go_ret
  exact ⟨by rw [hR.out]; rfl, B0⟩
 replace hR : Hid (R = Ca ⟨up, has, r, c, b, p, h, l, ro, wa, op⟩) := hR.out.trans (by rw [decide_eq_true ⟨h0, h4⟩, q2, q3]; rfl);go_wp2_with fail
 go_at_call 155
 refine (It ⟨up, has, r, c, b, p, h, l, ro, wa, op⟩ _).mono ?_;rintro e w2 ⟨rfl, k2⟩;have B2 := AA B0 k2;go_wp2
 go_ret
 exact ⟨by rw [hR.out]; rfl, B2⟩
theorem EK (x : Pt) (ld : Bool) (hld : ld = ((x.ro == 1) || (x.ro == 2))) : Ai x = (Ca x && (decide (0 ≤ x.ro ∧ x.ro ≤ 3) && (((x.ro == 0) == !x.up) && (decide (0 ≤ x.wa ∧ x.wa ≤ 4) && (x.op == (ld && (x.wa == 0))))))) := by
 unfold Ai Cv Cb BC;generalize Ca x = F
 generalize decide (0 ≤ x.wa ∧ x.wa ≤ 4) = W
 obtain ⟨up, has, r, c, b, p, h, l, ro, wa, op⟩ := x;dsimp only at hld ⊢;by_cases hr : 0 ≤ ro ∧ ro ≤ 3
 rotate_left
 ·
  rw [decide_eq_false hr]; cases F <;> rfl
 rw [decide_eq_true hr];have e1 : (up == decide (1 ≤ ro ∧ ro ≤ 3)) = ((ro == 0) == !up) := by
  obtain rfl | hn : ro = 0 ∨ ro ≠ 0 := by omega
  ·
   cases up <;> rfl
  rw [decide_eq_true (by omega), beq_eq_false_iff_ne.2 hn]; cases up <;> rfl
 have e2 : decide ((ro = 1 ∨ ro = 2) ∧ wa = 0) = (ld && (wa == 0)) := by
  rw [hld, Bool.eq_iff_iff]; simp
 rw [e1, e2];generalize ((ro == 0) == !up) = A
 generalize (op == (ld && (wa == 0))) = B
 cases F <;> cases A <;> cases B <;> cases W <;> rfl
theorem GA (x : Pt) (w : World) : Calls prog 91 #[.agg #[.bool x.up, .bool x.has, ji x.r, ji x.c, ji x.b, ji x.p, ji x.h, ji x.l, ji x.ro, ji x.wa, .bool x.op]] w fun e w' => e = .returned (.bool (Ai x)) ∧ Bw w w' := by
 obtain ⟨up, has, r, c, b, p, h, l, ro, wa, op⟩ := x;dsimp only
 have hR : Hid (Ai ⟨up, has, r, c, b, p, h, l, ro, wa, op⟩ = Ai ⟨up, has, r, c, b, p, h, l, ro, wa, op⟩) := rfl;have hF : Hid (Ca ⟨up, has, r, c, b, p, h, l, ro, wa, op⟩ = Ca ⟨up, has, r, c, b, p, h, l, ro, wa, op⟩) := rfl;have hNo : Ca ⟨up, has, r, c, b, p, h, l, ro, wa, op⟩ = false → Ai ⟨up, has, r, c, b, p, h, l, ro, wa, op⟩ = false := fun h => by rw [EK _ _ rfl, h]; rfl
 cases has
 ·
  have hF0 : Ca ⟨up, false, r, c, b, p, h, l, ro, wa, op⟩ = (decide (r = 0 ∧ c = 0 ∧ b = 0 ∧ p = 0) && (decide (h = 0) && decide (l = 0))) := by simp [Ca, Bool.and_assoc]
  by_cases hv : r = 0 ∧ c = 0 ∧ b = 0 ∧ p = 0
  rotate_left
  ·
   have heq := Fd r c b p 0 0 0 0;rw [decide_eq_false hv] at heq;have hN := hNo (by rw [hF0, decide_eq_false hv]; rfl);rw [hN];clear hR hF hNo hF0 hN;go_enter func91, ntmps91
   go_wp2
   go_ret
   exact ⟨rfl, (Below.refl _ _).alloc (Nat.le_refl _) _⟩
  have heq := Fd r c b p 0 0 0 0;rw [decide_eq_true hv] at heq;rw [decide_eq_true hv] at hF0;by_cases hh : h = 0
  rotate_left
  ·
   have fh : (h != 0) = true := by simp [hh]
   have fg : (h == 0) = false := by simp [hh]
   have hN := hNo (by rw [hF0, decide_eq_false hh]; rfl);rw [hN];clear hR hF hNo hF0 hN hv hh;go_enter func91, ntmps91
   go_wp2
   go_ret
   exact ⟨rfl, (Below.refl _ _).alloc (Nat.le_refl _) _⟩
  by_cases hl : l = 0
  rotate_left
  ·
   have fl : (l != 0) = true := by simp [hl]
   have fg : (l == 0) = false := by simp [hl]
   subst hh;have hN := hNo (by rw [hF0, decide_eq_false hl]; rfl);rw [hN];clear hR hF hNo hF0 hN hv hl;go_enter func91, ntmps91
   go_wp2
   go_ret
   exact ⟨rfl, (Below.refl _ _).alloc (Nat.le_refl _) _⟩
  replace hF0 : Ca ⟨up, false, r, c, b, p, h, l, ro, wa, op⟩ = true := by rw [hF0, decide_eq_true hh, decide_eq_true hl]; rfl
  obtain ⟨rfl, rfl, rfl, rfl⟩ := hv;subst hh hl;clear hF hNo heq hR;obtain ⟨R, hR⟩ := AB (Ai ⟨up, false, 0, 0, 0, 0, 0, 0, ro, wa, op⟩);rw [← hR];replace hR : Hid (R = Ai ⟨up, false, 0, 0, 0, 0, 0, 0, ro, wa, op⟩) := hR;have hF : Hid (Ca ⟨up, false, 0, 0, 0, 0, 0, 0, ro, wa, op⟩ = true) := hF0;clear hF0;have heq := fun Y => (Fd 0 0 0 0 0 0 0 0 Y).trans (by simp : _ = Result.ok true Y)
  obtain ⟨y, hy⟩ := AB (w.alloc (Obj.cells #[.bool up, .bool false, ji 0, ji 0, ji 0, ji 0, ji 0, ji 0, ji ro, ji wa, .bool op] 70));have P0 : Bo y w.heap.size ⟨up, false, 0, 0, 0, 0, 0, 0, ro, wa, op⟩ := by rw [hy]; exact Df w _ ⟨up, false, 0, 0, 0, 0, 0, 0, ro, wa, op⟩
  have B0 : Bw w y := by rw [hy]; exact (Below.refl _ _).alloc (Nat.le_refl _) _
  have S0 : w.heap.size < y.heap.size := P0.lt;go_enter func91, ntmps91
  obtain ⟨p0, p1, p2, p3, p4, p5, p6, p7, p8, p9, p10⟩ := P0;dsimp only at p0 p1 p2 p3 p4 p5 p6 p7 p8 p9 p10;cases l1 : (ro == 1)
  ·
   cases l2 : (ro == 2)
   ·
    replace hR := hR.out.trans (EK _ false (by dsimp only; rw [l1, l2]; rfl));dsimp only at hR;rw [hF.out] at hR;replace hR : Hid _ := hR;go_wp2_with fail
    go_at_call 65
    refine (BM ro 0 3 _).mono ?_;rintro e w5 ⟨rfl, rfl⟩;generalize decide (0 ≤ ro ∧ ro ≤ 3) = o1 at hR ⊢
    cases o1
    ·
     go_wp2
     go_ret
     exact ⟨by rw [hR.out]; rfl, ((Below.refl _ _).alloc (Nat.le_refl _) _)⟩
    cases q2 : ((ro == 0) == !up)
    ·
     go_wp2
     go_ret
     exact ⟨by rw [hR.out, q2]; rfl, ((Below.refl _ _).alloc (Nat.le_refl _) _)⟩
    go_wp2_with fail
    go_at_call 65
    refine (BM wa 0 4 _).mono ?_;rintro e w6 ⟨rfl, rfl⟩;generalize decide (0 ≤ wa ∧ wa ≤ 4) = o1 at hR ⊢
    cases o1
    ·
     go_wp2
     go_ret
     exact ⟨by rw [hR.out, q2]; rfl, ((Below.refl _ _).alloc (Nat.le_refl _) _)⟩
    go_wp2
    go_ret
    exact ⟨by rw [hR.out, q2]; cases op <;> rfl, ((Below.refl _ _).alloc (Nat.le_refl _) _)⟩
   replace hR := hR.out.trans (EK _ true (by dsimp only; rw [l1, l2]; rfl));dsimp only at hR;rw [hF.out] at hR;replace hR : Hid _ := hR;go_wp2_with fail
   go_at_call 65
   refine (BM ro 0 3 _).mono ?_;rintro e w5 ⟨rfl, rfl⟩;generalize decide (0 ≤ ro ∧ ro ≤ 3) = o1 at hR ⊢
   cases o1
   ·
    go_wp2
    go_ret
    exact ⟨by rw [hR.out]; rfl, ((Below.refl _ _).alloc (Nat.le_refl _) _)⟩
   cases q2 : ((ro == 0) == !up)
   ·
    go_wp2
    go_ret
    exact ⟨by rw [hR.out, q2]; rfl, ((Below.refl _ _).alloc (Nat.le_refl _) _)⟩
   go_wp2_with fail
   go_at_call 65
   refine (BM wa 0 4 _).mono ?_;rintro e w6 ⟨rfl, rfl⟩;generalize decide (0 ≤ wa ∧ wa ≤ 4) = o1 at hR ⊢
   cases o1
   ·
    go_wp2
    go_ret
    exact ⟨by rw [hR.out, q2]; rfl, ((Below.refl _ _).alloc (Nat.le_refl _) _)⟩
   go_wp2
   go_ret
   exact ⟨by rw [hR.out, q2]; rfl, ((Below.refl _ _).alloc (Nat.le_refl _) _)⟩
  replace hR := hR.out.trans (EK _ true (by dsimp only; rw [l1]; rfl));dsimp only at hR;rw [hF.out] at hR;replace hR : Hid _ := hR;go_wp2_with fail
  go_at_call 65
  refine (BM ro 0 3 _).mono ?_;rintro e w5 ⟨rfl, rfl⟩;generalize decide (0 ≤ ro ∧ ro ≤ 3) = o1 at hR ⊢
  cases o1
  ·
   go_wp2
   go_ret
   exact ⟨by rw [hR.out]; rfl, ((Below.refl _ _).alloc (Nat.le_refl _) _)⟩
  cases q2 : ((ro == 0) == !up)
  ·
   go_wp2
   go_ret
   exact ⟨by rw [hR.out, q2]; rfl, ((Below.refl _ _).alloc (Nat.le_refl _) _)⟩
  go_wp2_with fail
  go_at_call 65
  refine (BM wa 0 4 _).mono ?_;rintro e w6 ⟨rfl, rfl⟩;generalize decide (0 ≤ wa ∧ wa ≤ 4) = o1 at hR ⊢
  cases o1
  ·
   go_wp2
   go_ret
   exact ⟨by rw [hR.out, q2]; rfl, ((Below.refl _ _).alloc (Nat.le_refl _) _)⟩
  go_wp2
  go_ret
  exact ⟨by rw [hR.out, q2]; rfl, ((Below.refl _ _).alloc (Nat.le_refl _) _)⟩
 clear hR hF hNo;cases up
 ·
  rw [show Ai ⟨false, true, r, c, b, p, h, l, ro, wa, op⟩ = false by rw [EK _ _ rfl]; rfl];go_enter func91, ntmps91
  go_wp2
  go_ret
  exact ⟨rfl, (Below.refl _ _).alloc (Nat.le_refl _) _⟩
 obtain ⟨R, hR⟩ := AB (Ai ⟨true, true, r, c, b, p, h, l, ro, wa, op⟩);rw [← hR];replace hR : Hid (R = Ai ⟨true, true, r, c, b, p, h, l, ro, wa, op⟩) := hR;have hF : Hid (Ca ⟨true, true, r, c, b, p, h, l, ro, wa, op⟩ = (Af r c b p && (decide (0 ≤ h ∧ h ≤ 8) && decide (1 ≤ l ∧ l ≤ 3)))) := by simp [Hid, Ca]
 obtain ⟨y, hy⟩ := AB (w.alloc (Obj.cells #[.bool true, .bool true, ji r, ji c, ji b, ji p, ji h, ji l, ji ro, ji wa, .bool op] 70));have P0 : Bo y w.heap.size ⟨true, true, r, c, b, p, h, l, ro, wa, op⟩ := by rw [hy]; exact Df w _ ⟨true, true, r, c, b, p, h, l, ro, wa, op⟩
 have B0 : Bw w y := by rw [hy]; exact (Below.refl _ _).alloc (Nat.le_refl _) _
 have S0 : w.heap.size < y.heap.size := P0.lt;go_enter func91, ntmps91
 go_wp2_with fail
 go_at_call 123
 rw [← hy];clear hy;refine (Gy r c b p y).mono ?_;rintro e w1 ⟨rfl, k1⟩;obtain ⟨p0, p1, p2, p3, p4, p5, p6, p7, p8, p9, p10⟩ := P0.below k1 S0;have B1 := AA B0 k1;clear P0 k1 B0;generalize Af r c b p = ok at hF ⊢
 cases ok
 rotate_left;focus
  go_wp2_with fail
  go_at_call 65
  refine (BM h 0 8 _).mono ?_;rintro e w3 ⟨rfl, rfl⟩;generalize decide (0 ≤ h ∧ h ≤ 8) = ok at hF ⊢
  cases ok
 rotate_left;focus
  go_wp2_with fail
  go_at_call 65
  refine (BM l 1 3 _).mono ?_;rintro e w4 ⟨rfl, rfl⟩;generalize decide (1 ≤ l ∧ l ≤ 3) = ok at hF ⊢
  cases ok
 rotate_left;cases l1 : (ro == 1)
 ·
  cases l2 : (ro == 2)
  ·
   replace hR := hR.out.trans (EK _ false (by dsimp only; rw [l1, l2]; rfl));dsimp only at hR;rw [hF.out] at hR;replace hR : Hid _ := hR;go_wp2_with fail
   go_at_call 65
   refine (BM ro 0 3 _).mono ?_;rintro e w5 ⟨rfl, rfl⟩;generalize decide (0 ≤ ro ∧ ro ≤ 3) = o1 at hR ⊢
   cases o1
   ·
    go_wp2
    go_ret
    exact ⟨by rw [hR.out]; rfl, B1⟩
   cases q2 : (ro == 0)
   rotate_left
   ·
    go_wp2
    go_ret
    exact ⟨by rw [hR.out, q2]; rfl, B1⟩
   go_wp2_with fail
   go_at_call 65
   refine (BM wa 0 4 _).mono ?_;rintro e w6 ⟨rfl, rfl⟩;generalize decide (0 ≤ wa ∧ wa ≤ 4) = o1 at hR ⊢
   cases o1
   ·
    go_wp2
    go_ret
    exact ⟨by rw [hR.out, q2]; rfl, B1⟩
   go_wp2
   go_ret
   exact ⟨by rw [hR.out, q2]; cases op <;> rfl, B1⟩
  replace hR := hR.out.trans (EK _ true (by dsimp only; rw [l1, l2]; rfl));dsimp only at hR;rw [hF.out] at hR;replace hR : Hid _ := hR;go_wp2_with fail
  go_at_call 65
  refine (BM ro 0 3 _).mono ?_;rintro e w5 ⟨rfl, rfl⟩;generalize decide (0 ≤ ro ∧ ro ≤ 3) = o1 at hR ⊢
  cases o1
  ·
   go_wp2
   go_ret
   exact ⟨by rw [hR.out]; rfl, B1⟩
  cases q2 : (ro == 0)
  rotate_left
  ·
   go_wp2
   go_ret
   exact ⟨by rw [hR.out, q2]; rfl, B1⟩
  go_wp2_with fail
  go_at_call 65
  refine (BM wa 0 4 _).mono ?_;rintro e w6 ⟨rfl, rfl⟩;generalize decide (0 ≤ wa ∧ wa ≤ 4) = o1 at hR ⊢
  cases o1
  ·
   go_wp2
   go_ret
   exact ⟨by rw [hR.out, q2]; rfl, B1⟩
  go_wp2
  go_ret
  exact ⟨by rw [hR.out, q2]; rfl, B1⟩
 ·
  replace hR := hR.out.trans (EK _ true (by dsimp only; rw [l1]; rfl));dsimp only at hR;rw [hF.out] at hR;replace hR : Hid _ := hR;go_wp2_with fail
  go_at_call 65
  refine (BM ro 0 3 _).mono ?_;rintro e w5 ⟨rfl, rfl⟩;generalize decide (0 ≤ ro ∧ ro ≤ 3) = o1 at hR ⊢
  cases o1
  ·
   go_wp2
   go_ret
   exact ⟨by rw [hR.out]; rfl, B1⟩
  cases q2 : (ro == 0)
  rotate_left
  ·
   go_wp2
   go_ret
   exact ⟨by rw [hR.out, q2]; rfl, B1⟩
  go_wp2_with fail
  go_at_call 65
  refine (BM wa 0 4 _).mono ?_;rintro e w6 ⟨rfl, rfl⟩;generalize decide (0 ≤ wa ∧ wa ≤ 4) = o1 at hR ⊢
  cases o1
  ·
   go_wp2
   go_ret
   exact ⟨by rw [hR.out, q2]; rfl, B1⟩
  go_wp2
  go_ret
  exact ⟨by rw [hR.out, q2]; rfl, B1⟩
 all_goals
  go_wp2
  go_ret
  exact ⟨by rw [hR.out, EK _ _ rfl, hF.out]; rfl, B1⟩
def Eu (x : Pt) (r2 c2 b2 p2 : Int) : Bool := !x.has || (!CD x.r x.c x.b x.p r2 c2 b2 p2 || ((b2 == x.b) && (p2 == x.p)))
def EC (x : Pt) (r2 c2 b2 p2 k : Int) : Bool := Ai x && (x.up && (Af r2 c2 b2 p2 && (decide (0 ≤ k ∧ k ≤ 8) && Eu x r2 c2 b2 p2)))
def BD (x : Pt) (r2 c2 b2 p2 k : Int) : Pt := if EC x r2 c2 b2 p2 k then ⟨x.up, true, r2, c2, b2, p2, k, 3, x.ro, x.wa, x.op⟩ else x
theorem Hh {x : Pt} {r2 c2 b2 p2 k : Int} (h : EC x r2 c2 b2 p2 k = false) : BD x r2 c2 b2 p2 k = x := by unfold BD; rw [h]; rfl
theorem HS {x : Pt} {r2 c2 b2 p2 k : Int} (h : EC x r2 c2 b2 p2 k = true) : BD x r2 c2 b2 p2 k = ⟨x.up, true, r2, c2, b2, p2, k, 3, x.ro, x.wa, x.op⟩ := by unfold BD; rw [h]; rfl
theorem Jq (x : Pt) (r2 c2 b2 p2 : Int) (w : World) : Calls prog 183 #[.agg #[.bool x.up, .bool x.has, ji x.r, ji x.c, ji x.b, ji x.p, ji x.h, ji x.l, ji x.ro, ji x.wa, .bool x.op], .agg #[ji r2, ji c2, ji b2, ji p2]] w fun e w' => e = .returned (.bool (Eu x r2 c2 b2 p2)) ∧ Bw w w' := by
 obtain ⟨up, has, r, c, b, p, h, l, ro, wa, op⟩ := x;dsimp only
 have hR : Hid (Eu ⟨up, has, r, c, b, p, h, l, ro, wa, op⟩ r2 c2 b2 p2 = (!has || (!CD r c b p r2 c2 b2 p2 || ((b2 == b) && (p2 == p))))) := rfl;generalize Eu ⟨up, has, r, c, b, p, h, l, ro, wa, op⟩ r2 c2 b2 p2 = R at hR ⊢
 cases has
 ·
  go_enter func183, ntmps183
  go_wp2
  go_ret
  exact ⟨by rw [hR.out]; rfl, ((Below.refl _ _).alloc (Nat.le_refl _) _).alloc (by simp) _⟩
 obtain ⟨y, hy⟩ := AB ((w.alloc (Obj.cells #[.bool up, .bool true, ji r, ji c, ji b, ji p, ji h, ji l, ji ro, ji wa, .bool op] 70)).alloc (Obj.cells #[ji r2, ji c2, ji b2, ji p2] 62));have P0 : Bo y w.heap.size ⟨up, true, r, c, b, p, h, l, ro, wa, op⟩ := by rw [hy]; constructor <;> simp [go_sem]
 have V0 : Ds y (w.heap.size + 1) r2 c2 b2 p2 := by rw [hy]; refine ⟨?_, ?_, ?_, ?_⟩ <;> simp [go_sem]
 have B0 : Bw w y := by rw [hy]; exact ((Below.refl _ _).alloc (Nat.le_refl _) _).alloc (by simp) _
 have S0 : w.heap.size + 1 < y.heap.size := by rw [hy]; simp
 go_enter func183, ntmps183
 go_wp2_with fail
 go_at_call 203
 rw [← hy];clear hy;refine (FU r c b p r2 c2 b2 p2 y).mono ?_;rintro e w1 ⟨rfl, k1⟩;obtain ⟨cp0, cp1, cp2, cp3, cp4, cp5, cp6, cp7, cp8, cp9, cp10⟩ := P0.below k1 (by omega);obtain ⟨cv0, cv1, cv2, cv3⟩ := V0.below k1 (by omega);have B1 := AA B0 k1;clear P0 V0 k1 B0;generalize CD r c b p r2 c2 b2 p2 = o at hR ⊢
 cases o
 ·
  go_wp2
  go_ret
  exact ⟨by rw [hR.out]; rfl, B1⟩
 cases q1 : (b2 == b)
 ·
  go_wp2
  go_ret
  exact ⟨by rw [hR.out, q1]; rfl, B1⟩
 go_wp2
 go_ret
 exact ⟨by rw [hR.out, q1]; rfl, B1⟩
theorem Kd (x : Pt) (r2 c2 b2 p2 k : Int) (w : World) : Calls prog 157 #[.agg #[.bool x.up, .bool x.has, ji x.r, ji x.c, ji x.b, ji x.p, ji x.h, ji x.l, ji x.ro, ji x.wa, .bool x.op], .agg #[ji r2, ji c2, ji b2, ji p2], ji k] w fun e w' => e = .returned (.agg #[.bool (BD x r2 c2 b2 p2 k).up, .bool (BD x r2 c2 b2 p2 k).has, ji (BD x r2 c2 b2 p2 k).r, ji (BD x r2 c2 b2 p2 k).c, ji (BD x r2 c2 b2 p2 k).b, ji (BD x r2 c2 b2 p2 k).p, ji (BD x r2 c2 b2 p2 k).h, ji (BD x r2 c2 b2 p2 k).l, ji (BD x r2 c2 b2 p2 k).ro, ji (BD x r2 c2 b2 p2 k).wa, .bool (BD x r2 c2 b2 p2 k).op]) ∧ Bw w w' := by
 obtain ⟨up, has, r, c, b, p, h, l, ro, wa, op⟩ := x;dsimp only
 have hR : Hid (EC ⟨up, has, r, c, b, p, h, l, ro, wa, op⟩ r2 c2 b2 p2 k = (Ai ⟨up, has, r, c, b, p, h, l, ro, wa, op⟩ && (up && (Af r2 c2 b2 p2 && (decide (0 ≤ k ∧ k ≤ 8) && Eu ⟨up, has, r, c, b, p, h, l, ro, wa, op⟩ r2 c2 b2 p2))))) := rfl;have hY : Hid ((EC ⟨up, has, r, c, b, p, h, l, ro, wa, op⟩ r2 c2 b2 p2 k = false → BD ⟨up, has, r, c, b, p, h, l, ro, wa, op⟩ r2 c2 b2 p2 k = ⟨up, has, r, c, b, p, h, l, ro, wa, op⟩) ∧ (EC ⟨up, has, r, c, b, p, h, l, ro, wa, op⟩ r2 c2 b2 p2 k = true → BD ⟨up, has, r, c, b, p, h, l, ro, wa, op⟩ r2 c2 b2 p2 k = ⟨up, true, r2, c2, b2, p2, k, 3, ro, wa, op⟩)) := ⟨fun h => Hh h, fun h => HS h⟩;generalize EC ⟨up, has, r, c, b, p, h, l, ro, wa, op⟩ r2 c2 b2 p2 k = R at hR hY
 generalize BD ⟨up, has, r, c, b, p, h, l, ro, wa, op⟩ r2 c2 b2 p2 k = Y at hY ⊢
 obtain ⟨y, hy⟩ := AB (((w.alloc (Obj.cells #[.bool up, .bool has, ji r, ji c, ji b, ji p, ji h, ji l, ji ro, ji wa, .bool op] 70)).alloc (Obj.cells #[ji r2, ji c2, ji b2, ji p2] 62)).alloc (Obj.cells #[.bool false, .bool false, ji 0, ji 0, ji 0, ji 0, ji 0, ji 0, ji 0, ji 0, .bool false] 70));have P0 : Ae y w.heap.size ⟨up, has, r, c, b, p, h, l, ro, wa, op⟩ := by rw [hy]; refine ⟨?_, fun i => by simp [go_sem]⟩; constructor <;> simp [go_sem]
 have V0 : Ds y (w.heap.size + 1) r2 c2 b2 p2 := by rw [hy]; refine ⟨?_, ?_, ?_, ?_⟩ <;> simp [go_sem]
 have Q0 : Ae y (w.heap.size + 1 + 1) ⟨false, false, 0, 0, 0, 0, 0, 0, 0, 0, false⟩ := by rw [hy]; refine ⟨?_, fun i => by simp [go_sem]⟩; constructor <;> simp [go_sem]
 have B0 : Bw w y := by rw [hy]; exact (((Below.refl _ _).alloc (Nat.le_refl _) _).alloc (by simp) _).alloc (by simp; omega) _
 have S0 : w.heap.size + 1 + 1 < y.heap.size := Q0.lt;go_enter func157, ntmps157
 go_wp2_with fail
 go_at_call 130
 rw [← hy];clear hy;refine (GB ⟨up, has, r, c, b, p, h, l, ro, wa, op⟩ y).mono ?_;rintro e w1 ⟨rfl, k1⟩;have B1 := AA B0 k1;have S1 := Nat.lt_of_lt_of_le S0 k1.size;replace P0 := P0.below k1 (by omega);have P1 := P0;replace V0 := V0.below k1 (by omega);have V1 := V0;replace Q0 := Q0.below k1 (by omega);have Q1 := Q0;clear P0 V0 Q0 B0 S0 k1;generalize Ai ⟨up, has, r, c, b, p, h, l, ro, wa, op⟩ = ok at hR ⊢
 cases ok
 ·
  have cp0 := P1.at_.all;replace V1 := V1.all;obtain ⟨⟨cq0, cq1, cq2, cq3, cq4, cq5, cq6, cq7, cq8, cq9, cq10⟩, cqf⟩ := Q1;have hZ := hY.out.1 (by rw [hR.out]; rfl);clear hY;replace hZ : Hid _ := hZ;go_wp2
  refine bodyPost_ret (v := .agg #[.bool up, .bool has, ji r, ji c, ji b, ji p, ji h, ji l, ji ro, ji wa, .bool op]) (by simp [results, results157, go_sem, *]) rfl ⟨by rw [hZ.out], ?_⟩;repeat' (first | with_reducible exact B1 | with_reducible refine Below.setCell ?_ (by simp <;> omega) _ | with_reducible refine Below.drew ?_)
 cases up
 ·
  have cp0 := P1.at_.all;replace V1 := V1.all;obtain ⟨⟨cq0, cq1, cq2, cq3, cq4, cq5, cq6, cq7, cq8, cq9, cq10⟩, cqf⟩ := Q1;have hZ := hY.out.1 (by rw [hR.out]; rfl);clear hY;replace hZ : Hid _ := hZ;go_wp2
  refine bodyPost_ret (v := .agg #[.bool false, .bool has, ji r, ji c, ji b, ji p, ji h, ji l, ji ro, ji wa, .bool op]) (by simp [results, results157, go_sem, *]) rfl ⟨by rw [hZ.out], ?_⟩;repeat' (first | with_reducible exact B1 | with_reducible refine Below.setCell ?_ (by simp <;> omega) _ | with_reducible refine Below.drew ?_)
 have V1' := V1;have cp0 := P1.at_.all;obtain ⟨cv0, cv1, cv2, cv3⟩ := V1';go_wp2_with fail
 go_at_call 181
 refine (Gz r2 c2 b2 p2 w1).mono ?_;rintro e w2 ⟨rfl, k2⟩;clear cp0 cv0 cv1 cv2 cv3;have B2 := AA B1 k2;have S2 := Nat.lt_of_lt_of_le S1 k2.size;replace P1 := P1.below k2 (by omega);have P2 := P1;replace V1 := V1.below k2 (by omega);have V2 := V1;replace Q1 := Q1.below k2 (by omega);have Q2 := Q1;clear P1 V1 Q1 B1 S1 k2;generalize Af r2 c2 b2 p2 = ok at hR ⊢
 cases ok
 ·
  have cp0 := P2.at_.all;replace V2 := V2.all;obtain ⟨⟨cq0, cq1, cq2, cq3, cq4, cq5, cq6, cq7, cq8, cq9, cq10⟩, cqf⟩ := Q2;have hZ := hY.out.1 (by rw [hR.out]; rfl);clear hY;replace hZ : Hid _ := hZ;go_wp2
  refine bodyPost_ret (v := .agg #[.bool true, .bool has, ji r, ji c, ji b, ji p, ji h, ji l, ji ro, ji wa, .bool op]) (by simp [results, results157, go_sem, *]) rfl ⟨by rw [hZ.out], ?_⟩;repeat' (first | with_reducible exact B2 | with_reducible refine Below.setCell ?_ (by simp <;> omega) _ | with_reducible refine Below.drew ?_)
 go_wp2_with fail
 go_at_call 182
 refine (GW k w2).mono ?_;rintro e w2 ⟨rfl, rfl⟩;generalize decide (0 ≤ k ∧ k ≤ 8) = ok at hR ⊢
 cases ok
 ·
  have cp0 := P2.at_.all;replace V2 := V2.all;obtain ⟨⟨cq0, cq1, cq2, cq3, cq4, cq5, cq6, cq7, cq8, cq9, cq10⟩, cqf⟩ := Q2;have hZ := hY.out.1 (by rw [hR.out]; rfl);clear hY;replace hZ : Hid _ := hZ;go_wp2
  refine bodyPost_ret (v := .agg #[.bool true, .bool has, ji r, ji c, ji b, ji p, ji h, ji l, ji ro, ji wa, .bool op]) (by simp [results, results157, go_sem, *]) rfl ⟨by rw [hZ.out], ?_⟩;repeat' (first | with_reducible exact B2 | with_reducible refine Below.setCell ?_ (by simp <;> omega) _ | with_reducible refine Below.drew ?_)
 have V2' := V2;have cp0 := P2.at_.all;obtain ⟨cv0, cv1, cv2, cv3⟩ := V2';go_wp2_with fail
 go_at_call 183
 refine (Jq ⟨true, has, r, c, b, p, h, l, ro, wa, op⟩ r2 c2 b2 p2 w2).mono ?_;rintro e w3 ⟨rfl, k3⟩;clear cp0 cv0 cv1 cv2 cv3;have B3 := AA B2 k3;have S3 := Nat.lt_of_lt_of_le S2 k3.size;replace P2 := P2.below k3 (by omega);have P3 := P2;replace V2 := V2.below k3 (by omega);have V3 := V2;replace Q2 := Q2.below k3 (by omega);have Q3 := Q2;clear P2 V2 Q2 B2 S2 k3;generalize Eu ⟨true, has, r, c, b, p, h, l, ro, wa, op⟩ r2 c2 b2 p2 = ok at hR ⊢
 cases ok
 ·
  have cp0 := P3.at_.all;replace V3 := V3.all;obtain ⟨⟨cq0, cq1, cq2, cq3, cq4, cq5, cq6, cq7, cq8, cq9, cq10⟩, cqf⟩ := Q3;have hZ := hY.out.1 (by rw [hR.out]; rfl);clear hY;replace hZ : Hid _ := hZ;go_wp2
  refine bodyPost_ret (v := .agg #[.bool true, .bool has, ji r, ji c, ji b, ji p, ji h, ji l, ji ro, ji wa, .bool op]) (by simp [results, results157, go_sem, *]) rfl ⟨by rw [hZ.out], ?_⟩;repeat' (first | with_reducible exact B3 | with_reducible refine Below.setCell ?_ (by simp <;> omega) _ | with_reducible refine Below.drew ?_)
 have hZ := hY.out.2 (by rw [hR.out]; rfl);clear hY;replace hZ : Hid _ := hZ;obtain ⟨⟨cp0, cp1, cp2, cp3, cp4, cp5, cp6, cp7, cp8, cp9, cp10⟩, cpf⟩ := P3;replace V3 := V3.all;obtain ⟨⟨cq0, cq1, cq2, cq3, cq4, cq5, cq6, cq7, cq8, cq9, cq10⟩, cqf⟩ := Q3;go_wp2
 go_region
 go_wp2
 refine bodyPost_ret (v := .agg #[.bool true, .bool true, ji r2, ji c2, ji b2, ji p2, ji k, ji 3, ji ro, ji wa, .bool op]) (by simp [results, results157, go_sem, *]) rfl ⟨by rw [hZ.out], ?_⟩;repeat' (first | with_reducible exact B3 | with_reducible refine Below.setCell ?_ (by simp <;> omega) _ | with_reducible refine Below.drew ?_)
end Go.Proofs.YthgcbihhdbpbdaaGreat
