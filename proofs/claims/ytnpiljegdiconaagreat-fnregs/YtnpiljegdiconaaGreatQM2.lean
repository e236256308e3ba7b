import Derived.Laws.StructEq
import Derived.ChangeKeysEq
import Derived.Test.YtnpiljegdiconaaGreatQM3
import Derived.Lib.SmallJoins
import Derived.Deep.Cut
namespace Go.Proofs.YtnpiljegdiconaaGreat
open Go.ChangeShapes Go.WideShapes Go.ChangeAt Go.RowKit
open Go.ChangeMaps (open_string shut_string)
set_option linter.unusedVariables false
set_option maxRecDepth 100000
def View (w : World) (ad : Option Addr) (len : Nat) (f : Nat → Int) : Prop :=
 0 < len → ∃ b off, ad = some ⟨b, off, none⟩ ∧ ∀ i, i < len → w.cell? ⟨b, off + i, none⟩ = some (.int .u8 (f i))
theorem View.carry {w w' : World} {ad : Option Addr} {len : Nat} {f : Nat → Int} (h : View w ad len f) (hb : ∀ a, ad = some a → 0 < len → w'.heap[a.block]? = w.heap[a.block]?) : View w' ad len f :=
 fun hp => by
  obtain ⟨b, off, e, hc⟩ := h hp
  exact ⟨b, off, e, fun i hi => (World.cell?_of_block (a := ⟨b, off + i, none⟩) (hb ⟨b, off, none⟩ e hp)).trans (hc i hi)⟩
theorem cell_set_same {w : World} {b j : Nat} {v : Value} (h : ∃ u, w.cell? ⟨b, j, none⟩ = some u) : (w.setCell ⟨b, j, none⟩ v).cell? ⟨b, j, none⟩ = some v := by
 obtain ⟨u, hu⟩ := h;exact World.cell?_setCell_same _ _ _ hu
theorem cell_set_ne {w : World} {b j i : Nat} {v : Value} (h : i ≠ j) : (w.setCell ⟨b, j, none⟩ v).cell? ⟨b, i, none⟩ = w.cell? ⟨b, i, none⟩ :=
 World.cell?_setCell_other _ _ _ _ (fun e => h (by injection e with _ e2; exact e2.symm))
def vLt (r c b p r2 c2 b2 p2 : Int) : Bool := if r ≠ r2 then decide (r < r2) else if c ≠ c2 then decide (c < c2) else if b ≠ b2 then decide (b < b2) else decide (p < p2)
set_option maxHeartbeats 2000000 in
theorem betterS (r c b p r2 c2 b2 p2 : Int) (w : World) :
  Calls Tryz.prog 210 #[.agg #[.int .i64 r, .int .i64 c, .int .i64 b, .int .i64 p], .agg #[.int .i64 r2, .int .i64 c2, .int .i64 b2, .int .i64 p2]] w fun e w' => e = .returned (.bool (vLt r c b p r2 c2 b2 p2)) ∧ Below w.heap.size w w' := by
 by_cases hr : r = r2
 rotate_left
 ·
  have er : (r == r2) = false := by simp [hr]
  have fr : (r != r2) = true := by simp [hr]
  have e : vLt r c b p r2 c2 b2 p2 = decide (r < r2) := by simp [vLt, hr]
  rw [e];clear e;go_enter Tryz.func210, Tryz.ntmps210
  go_wp2
  go_ret
  exact ⟨rfl, ((Below.refl _ _).alloc (Nat.le_refl _) _).alloc (by simp) _⟩
 subst hr;by_cases hc : c = c2
 rotate_left
 ·
  have ec : (c == c2) = false := by simp [hc]
  have fc : (c != c2) = true := by simp [hc]
  have e : vLt r c b p r c2 b2 p2 = decide (c < c2) := by simp [vLt, hc]
  rw [e];clear e;go_enter Tryz.func210, Tryz.ntmps210
  go_wp2
  go_ret
  exact ⟨rfl, ((Below.refl _ _).alloc (Nat.le_refl _) _).alloc (by simp) _⟩
 subst hc;by_cases hb : b = b2
 rotate_left
 ·
  have eb : (b == b2) = false := by simp [hb]
  have fb : (b != b2) = true := by simp [hb]
  have e : vLt r c b p r c b2 p2 = decide (b < b2) := by simp [vLt, hb]
  rw [e];clear e;go_enter Tryz.func210, Tryz.ntmps210
  go_wp2
  go_ret
  exact ⟨rfl, ((Below.refl _ _).alloc (Nat.le_refl _) _).alloc (by simp) _⟩
 subst hb;have e : vLt r c b p r c b p2 = decide (p < p2) := by simp [vLt]
 rw [e];clear e;go_enter Tryz.func210, Tryz.ntmps210
 go_wp2
 go_ret
 exact ⟨rfl, ((Below.refl _ _).alloc (Nat.le_refl _) _).alloc (by simp) _⟩
theorem fieldsV : ∃ f0 f1 f2 f3 : Field, (Tryz.prog.fieldsOf 103).toList = [f0, f1, f2, f3] ∧ (f0.name ≠ "_" ∧ f0.type = 3 ∧ f0.offset = 0) ∧ (f1.name ≠ "_" ∧ f1.type = 3 ∧ f1.offset = 1) ∧ (f2.name ≠ "_" ∧ f2.type = 3 ∧ f2.offset = 2) ∧ (f3.name ≠ "_" ∧ f3.type = 3 ∧ f3.offset = 3) := by
 have h : ((Tryz.prog.fieldsOf 103).toList.map fun f => (decide (f.name ≠ "_"), f.type, f.offset)) = [(true, 3, 0), (true, 3, 1), (true, 3, 2), (true, 3, 3)] := by kernel_rfl
 revert h;generalize (Tryz.prog.fieldsOf 103).toList = L
 intro h;rcases L with _ | ⟨f0, _ | ⟨f1, _ | ⟨f2, _ | ⟨f3, _ | ⟨f4, L⟩⟩⟩⟩⟩ <;> simp at h
 obtain ⟨⟨a0, a1, a2⟩, ⟨b0, b1, b2⟩, ⟨c0, c1, c2⟩, d0, d1, d2⟩ := h;exact ⟨f0, f1, f2, f3, rfl, ⟨a0, a1, a2⟩, ⟨b0, b1, b2⟩, ⟨c0, c1, c2⟩, d0, d1, d2⟩
theorem eqV (r c b p r2 c2 b2 p2 : Int) (w : World) : (Op.equalIn 10000 103 (.agg #[.int .i64 r, .int .i64 c, .int .i64 b, .int .i64 p]) (.agg #[.int .i64 r2, .int .i64 c2, .int .i64 b2, .int .i64 p2])).run Tryz.prog w = .ok (decide (r = r2 ∧ c = c2 ∧ b = b2 ∧ p = p2)) w := by
 rw [show (10000 : Nat) = 9999 + 1 from rfl, run_equalIn_struct w 9999 103 _ _ (by kernel_rfl) (by kernel_rfl)];obtain ⟨f0, f1, f2, f3, hL, ⟨x0, x1, x2⟩, ⟨y0, y1, y2⟩, ⟨z0, z1, z2⟩, u0, u1, u2⟩ := fieldsV;have h3 : Tryz.prog.underlying 3 = some (.int .i64) := by kernel_rfl
 have hb : ∀ (x y : Int), (Op.equalIn 9999 3 (.int .i64 x) (.int .i64 y)).run Tryz.prog w = .ok (x == y) w := fun x y => run_equalIn_int w 9998 3 .i64 .i64 x y h3
 have hp : Tryz.prog.plainKey 3 = true := by kernel_rfl
 have p0 : ∀ (x0 x1 x2 x3 : Value), (part 3 #[x0, x1, x2, x3] 0).run Tryz.prog w = .ok x0 w := fun x0 x1 x2 x3 => run_part_plain w hp rfl
 have p1 : ∀ (x0 x1 x2 x3 : Value), (part 3 #[x0, x1, x2, x3] 1).run Tryz.prog w = .ok x1 w := fun x0 x1 x2 x3 => run_part_plain w hp rfl
 have q2 : ∀ (x0 x1 x2 x3 : Value), (part 3 #[x0, x1, x2, x3] 2).run Tryz.prog w = .ok x2 w := fun x0 x1 x2 x3 => run_part_plain w hp rfl
 have p3 : ∀ (x0 x1 x2 x3 : Value), (part 3 #[x0, x1, x2, x3] 3).run Tryz.prog w = .ok x3 w := fun x0 x1 x2 x3 => run_part_plain w hp rfl
 rw [hL];simp only [Op.eqFields, if_pos x0, if_pos y0, if_pos z0, if_pos u0, x1, x2, y1, y2, z1, z2, u1, u2, Sem.run_bind];rw [p0, Result.andThen_ok, p0, Result.andThen_ok, hb, Result.andThen_ok];by_cases e0 : r = r2
 rotate_left
 ·
  simp [e0]
 simp only [e0, beq_self_eq_true, Bool.not_true, Bool.false_eq_true, if_false, Sem.run_bind, true_and];rw [p1, Result.andThen_ok, p1, Result.andThen_ok, hb, Result.andThen_ok];by_cases e1 : c = c2
 rotate_left
 ·
  simp [e1]
 simp only [e1, beq_self_eq_true, Bool.not_true, Bool.false_eq_true, if_false, Sem.run_bind, true_and];rw [q2, Result.andThen_ok, q2, Result.andThen_ok, hb, Result.andThen_ok];by_cases e2 : b = b2
 rotate_left
 ·
  simp [e2]
 simp only [e2, beq_self_eq_true, Bool.not_true, Bool.false_eq_true, if_false, Sem.run_bind, true_and];rw [p3, Result.andThen_ok, p3, Result.andThen_ok, hb, Result.andThen_ok];by_cases e3 : p = p2
 ·
  simp [e3]
 simp [e3]
def VecAt (w : World) (q : Nat) (r c b p : Int) : Prop :=
 w.cell? ⟨q, 0, none⟩ = some (.int .i64 r) ∧ w.cell? ⟨q, 1, none⟩ = some (.int .i64 c) ∧ w.cell? ⟨q, 2, none⟩ = some (.int .i64 b) ∧ w.cell? ⟨q, 3, none⟩ = some (.int .i64 p)
theorem VecAt.below {w w' : World} {q n : Nat} {r c b p : Int} (h : VecAt w q r c b p) (k : Below n w w') (hq : q < n) : VecAt w' q r c b p :=
 ⟨(k.cell (p := ⟨q, 0, none⟩) hq).trans h.1, (k.cell (p := ⟨q, 1, none⟩) hq).trans h.2.1, (k.cell (p := ⟨q, 2, none⟩) hq).trans h.2.2.1, (k.cell (p := ⟨q, 3, none⟩) hq).trans h.2.2.2⟩
theorem vecAt_box (w : World) (t : TypeId) (r c b p : Int) : VecAt (w.alloc (Obj.cells #[.int .i64 r, .int .i64 c, .int .i64 b, .int .i64 p] t)) w.heap.size r c b p := by
 refine ⟨?_, ?_, ?_, ?_⟩ <;> simp [go_sem]
structure Pt where
 up : Bool
 has : Bool
 r : Int
 c : Int
 b : Int
 p : Int
 h : Int
 l : Int
 ro : Int
 wa : Int
 op : Bool
structure PtAt (w : World) (q : Nat) (x : Pt) : Prop where
 c0 : w.cell? ⟨q, 0, none⟩ = some (.bool x.up)
 c1 : w.cell? ⟨q, 1, none⟩ = some (.bool x.has)
 c2 : w.cell? ⟨q, 2, none⟩ = some (.int .i64 x.r)
 c3 : w.cell? ⟨q, 3, none⟩ = some (.int .i64 x.c)
 c4 : w.cell? ⟨q, 4, none⟩ = some (.int .i64 x.b)
 c5 : w.cell? ⟨q, 5, none⟩ = some (.int .i64 x.p)
 c6 : w.cell? ⟨q, 6, none⟩ = some (.int .i64 x.h)
 c7 : w.cell? ⟨q, 7, none⟩ = some (.int .i64 x.l)
 c8 : w.cell? ⟨q, 8, none⟩ = some (.int .i64 x.ro)
 c9 : w.cell? ⟨q, 9, none⟩ = some (.int .i64 x.wa)
 c10 : w.cell? ⟨q, 10, none⟩ = some (.bool x.op)
theorem PtAt.keep {w w' : World} {q : Nat} {x : Pt} (h : PtAt w q x) (k : w'.heap[q]? = w.heap[q]?) : PtAt w' q x :=
 ⟨(World.cell?_of_block (a := ⟨q, 0, none⟩) k).trans h.c0, (World.cell?_of_block (a := ⟨q, 1, none⟩) k).trans h.c1, (World.cell?_of_block (a := ⟨q, 2, none⟩) k).trans h.c2, (World.cell?_of_block (a := ⟨q, 3, none⟩) k).trans h.c3, (World.cell?_of_block (a := ⟨q, 4, none⟩) k).trans h.c4, (World.cell?_of_block (a := ⟨q, 5, none⟩) k).trans h.c5, (World.cell?_of_block (a := ⟨q, 6, none⟩) k).trans h.c6, (World.cell?_of_block (a := ⟨q, 7, none⟩) k).trans h.c7, (World.cell?_of_block (a := ⟨q, 8, none⟩) k).trans h.c8, (World.cell?_of_block (a := ⟨q, 9, none⟩) k).trans h.c9, (World.cell?_of_block (a := ⟨q, 10, none⟩) k).trans h.c10⟩
theorem PtAt.below {w w' : World} {q n : Nat} {x : Pt} (h : PtAt w q x) (k : Below n w w') (hq : q < n) : PtAt w' q x := h.keep (k.block q hq)
theorem PtAt.lt {w : World} {q : Nat} {x : Pt} (h : PtAt w q x) : q < w.heap.size := World.block_lt_of_cell? w _ h.c0
theorem ptAt_box (w : World) (t : TypeId) (x : Pt) : PtAt (w.alloc (Obj.cells #[.bool x.up, .bool x.has, .int .i64 x.r, .int .i64 x.c, .int .i64 x.b, .int .i64 x.p, .int .i64 x.h, .int .i64 x.l, .int .i64 x.ro, .int .i64 x.wa, .bool x.op] t)) w.heap.size x := by
 refine ⟨?_, ?_, ?_, ?_, ?_, ?_, ?_, ?_, ?_, ?_, ?_⟩ <;> simp [go_sem]
structure PBox (w : World) (q : Nat) (x : Pt) : Prop where
 at_ : PtAt w q x
 fr : ∀ i, w.frozen? ⟨q, i, none⟩ = false
theorem PBox.keep {w w' : World} {q : Nat} {x : Pt} (h : PBox w q x) (k : w'.heap[q]? = w.heap[q]?) : PBox w' q x :=
 ⟨h.at_.keep k, fun i => (World.frozen?_of_block (a := ⟨q, i, none⟩) k).trans (h.fr i)⟩
theorem PBox.lt {w : World} {q : Nat} {x : Pt} (h : PBox w q x) : q < w.heap.size := h.at_.lt
theorem PBox.below {w w' : World} {q n : Nat} {x : Pt} (h : PBox w q x) (g : Below n w w') (hq : q < n) : PBox w' q x := h.keep (g.block q hq)
theorem PBox.other {w : World} {q q' i : Nat} {x : Pt} {v : Value} (h : PBox w q x) (hne : q ≠ q') : PBox (w.setCell ⟨q', i, none⟩ v) q x := h.keep (Below.heap_setCell _ _ _ _ hne)
theorem pset_same {w : World} {q i : Nat} {u v : Value} (h : w.cell? ⟨q, i, none⟩ = some u) : (w.setCell ⟨q, i, none⟩ v).cell? ⟨q, i, none⟩ = some v := cell_set_same ⟨_, h⟩
theorem pset_else {w : World} {q i j : Nat} {v : Value} (h : i ≠ j) : (w.setCell ⟨q, i, none⟩ v).cell? ⟨q, j, none⟩ = w.cell? ⟨q, j, none⟩ := cell_set_ne (Ne.symm h)
theorem PBox.set0 {w : World} {q : Nat} {x : Pt} (z : Bool) (h : PBox w q x) : PBox (w.setCell ⟨q, 0, none⟩ (.bool z)) q { x with up := z } :=
 ⟨⟨pset_same h.at_.c0, (pset_else (by decide)).trans h.at_.c1, (pset_else (by decide)).trans h.at_.c2, (pset_else (by decide)).trans h.at_.c3, (pset_else (by decide)).trans h.at_.c4, (pset_else (by decide)).trans h.at_.c5, (pset_else (by decide)).trans h.at_.c6, (pset_else (by decide)).trans h.at_.c7, (pset_else (by decide)).trans h.at_.c8, (pset_else (by decide)).trans h.at_.c9, (pset_else (by decide)).trans h.at_.c10⟩, fun i => by rw [World.frozen?_setCell]; exact h.fr i⟩
theorem PBox.set1 {w : World} {q : Nat} {x : Pt} (z : Bool) (h : PBox w q x) : PBox (w.setCell ⟨q, 1, none⟩ (.bool z)) q { x with has := z } :=
 ⟨⟨(pset_else (by decide)).trans h.at_.c0, pset_same h.at_.c1, (pset_else (by decide)).trans h.at_.c2, (pset_else (by decide)).trans h.at_.c3, (pset_else (by decide)).trans h.at_.c4, (pset_else (by decide)).trans h.at_.c5, (pset_else (by decide)).trans h.at_.c6, (pset_else (by decide)).trans h.at_.c7, (pset_else (by decide)).trans h.at_.c8, (pset_else (by decide)).trans h.at_.c9, (pset_else (by decide)).trans h.at_.c10⟩, fun i => by rw [World.frozen?_setCell]; exact h.fr i⟩
theorem PBox.set2 {w : World} {q : Nat} {x : Pt} (z : Int) (h : PBox w q x) : PBox (w.setCell ⟨q, 2, none⟩ (.int .i64 z)) q { x with r := z } :=
 ⟨⟨(pset_else (by decide)).trans h.at_.c0, (pset_else (by decide)).trans h.at_.c1, pset_same h.at_.c2, (pset_else (by decide)).trans h.at_.c3, (pset_else (by decide)).trans h.at_.c4, (pset_else (by decide)).trans h.at_.c5, (pset_else (by decide)).trans h.at_.c6, (pset_else (by decide)).trans h.at_.c7, (pset_else (by decide)).trans h.at_.c8, (pset_else (by decide)).trans h.at_.c9, (pset_else (by decide)).trans h.at_.c10⟩, fun i => by rw [World.frozen?_setCell]; exact h.fr i⟩
theorem PBox.set3 {w : World} {q : Nat} {x : Pt} (z : Int) (h : PBox w q x) : PBox (w.setCell ⟨q, 3, none⟩ (.int .i64 z)) q { x with c := z } :=
 ⟨⟨(pset_else (by decide)).trans h.at_.c0, (pset_else (by decide)).trans h.at_.c1, (pset_else (by decide)).trans h.at_.c2, pset_same h.at_.c3, (pset_else (by decide)).trans h.at_.c4, (pset_else (by decide)).trans h.at_.c5, (pset_else (by decide)).trans h.at_.c6, (pset_else (by decide)).trans h.at_.c7, (pset_else (by decide)).trans h.at_.c8, (pset_else (by decide)).trans h.at_.c9, (pset_else (by decide)).trans h.at_.c10⟩, fun i => by rw [World.frozen?_setCell]; exact h.fr i⟩
theorem PBox.set4 {w : World} {q : Nat} {x : Pt} (z : Int) (h : PBox w q x) : PBox (w.setCell ⟨q, 4, none⟩ (.int .i64 z)) q { x with b := z } :=
 ⟨⟨(pset_else (by decide)).trans h.at_.c0, (pset_else (by decide)).trans h.at_.c1, (pset_else (by decide)).trans h.at_.c2, (pset_else (by decide)).trans h.at_.c3, pset_same h.at_.c4, (pset_else (by decide)).trans h.at_.c5, (pset_else (by decide)).trans h.at_.c6, (pset_else (by decide)).trans h.at_.c7, (pset_else (by decide)).trans h.at_.c8, (pset_else (by decide)).trans h.at_.c9, (pset_else (by decide)).trans h.at_.c10⟩, fun i => by rw [World.frozen?_setCell]; exact h.fr i⟩
theorem PBox.set5 {w : World} {q : Nat} {x : Pt} (z : Int) (h : PBox w q x) : PBox (w.setCell ⟨q, 5, none⟩ (.int .i64 z)) q { x with p := z } :=
 ⟨⟨(pset_else (by decide)).trans h.at_.c0, (pset_else (by decide)).trans h.at_.c1, (pset_else (by decide)).trans h.at_.c2, (pset_else (by decide)).trans h.at_.c3, (pset_else (by decide)).trans h.at_.c4, pset_same h.at_.c5, (pset_else (by decide)).trans h.at_.c6, (pset_else (by decide)).trans h.at_.c7, (pset_else (by decide)).trans h.at_.c8, (pset_else (by decide)).trans h.at_.c9, (pset_else (by decide)).trans h.at_.c10⟩, fun i => by rw [World.frozen?_setCell]; exact h.fr i⟩
theorem PBox.set6 {w : World} {q : Nat} {x : Pt} (z : Int) (h : PBox w q x) : PBox (w.setCell ⟨q, 6, none⟩ (.int .i64 z)) q { x with h := z } :=
 ⟨⟨(pset_else (by decide)).trans h.at_.c0, (pset_else (by decide)).trans h.at_.c1, (pset_else (by decide)).trans h.at_.c2, (pset_else (by decide)).trans h.at_.c3, (pset_else (by decide)).trans h.at_.c4, (pset_else (by decide)).trans h.at_.c5, pset_same h.at_.c6, (pset_else (by decide)).trans h.at_.c7, (pset_else (by decide)).trans h.at_.c8, (pset_else (by decide)).trans h.at_.c9, (pset_else (by decide)).trans h.at_.c10⟩, fun i => by rw [World.frozen?_setCell]; exact h.fr i⟩
theorem PBox.set7 {w : World} {q : Nat} {x : Pt} (z : Int) (h : PBox w q x) : PBox (w.setCell ⟨q, 7, none⟩ (.int .i64 z)) q { x with l := z } :=
 ⟨⟨(pset_else (by decide)).trans h.at_.c0, (pset_else (by decide)).trans h.at_.c1, (pset_else (by decide)).trans h.at_.c2, (pset_else (by decide)).trans h.at_.c3, (pset_else (by decide)).trans h.at_.c4, (pset_else (by decide)).trans h.at_.c5, (pset_else (by decide)).trans h.at_.c6, pset_same h.at_.c7, (pset_else (by decide)).trans h.at_.c8, (pset_else (by decide)).trans h.at_.c9, (pset_else (by decide)).trans h.at_.c10⟩, fun i => by rw [World.frozen?_setCell]; exact h.fr i⟩
theorem PBox.set8 {w : World} {q : Nat} {x : Pt} (z : Int) (h : PBox w q x) : PBox (w.setCell ⟨q, 8, none⟩ (.int .i64 z)) q { x with ro := z } :=
 ⟨⟨(pset_else (by decide)).trans h.at_.c0, (pset_else (by decide)).trans h.at_.c1, (pset_else (by decide)).trans h.at_.c2, (pset_else (by decide)).trans h.at_.c3, (pset_else (by decide)).trans h.at_.c4, (pset_else (by decide)).trans h.at_.c5, (pset_else (by decide)).trans h.at_.c6, (pset_else (by decide)).trans h.at_.c7, pset_same h.at_.c8, (pset_else (by decide)).trans h.at_.c9, (pset_else (by decide)).trans h.at_.c10⟩, fun i => by rw [World.frozen?_setCell]; exact h.fr i⟩
theorem PBox.set9 {w : World} {q : Nat} {x : Pt} (z : Int) (h : PBox w q x) : PBox (w.setCell ⟨q, 9, none⟩ (.int .i64 z)) q { x with wa := z } :=
 ⟨⟨(pset_else (by decide)).trans h.at_.c0, (pset_else (by decide)).trans h.at_.c1, (pset_else (by decide)).trans h.at_.c2, (pset_else (by decide)).trans h.at_.c3, (pset_else (by decide)).trans h.at_.c4, (pset_else (by decide)).trans h.at_.c5, (pset_else (by decide)).trans h.at_.c6, (pset_else (by decide)).trans h.at_.c7, (pset_else (by decide)).trans h.at_.c8, pset_same h.at_.c9, (pset_else (by decide)).trans h.at_.c10⟩, fun i => by rw [World.frozen?_setCell]; exact h.fr i⟩
theorem PBox.set10 {w : World} {q : Nat} {x : Pt} (z : Bool) (h : PBox w q x) : PBox (w.setCell ⟨q, 10, none⟩ (.bool z)) q { x with op := z } :=
 ⟨⟨(pset_else (by decide)).trans h.at_.c0, (pset_else (by decide)).trans h.at_.c1, (pset_else (by decide)).trans h.at_.c2, (pset_else (by decide)).trans h.at_.c3, (pset_else (by decide)).trans h.at_.c4, (pset_else (by decide)).trans h.at_.c5, (pset_else (by decide)).trans h.at_.c6, (pset_else (by decide)).trans h.at_.c7, (pset_else (by decide)).trans h.at_.c8, (pset_else (by decide)).trans h.at_.c9, pset_same h.at_.c10⟩, fun i => by rw [World.frozen?_setCell]; exact h.fr i⟩
def raUp (ro : Int) : Bool := decide (1 ≤ ro ∧ ro ≤ 3)
def raIs (ro : Int) : Bool := decide (0 ≤ ro ∧ ro ≤ 3)
def raOp (ro wa : Int) : Bool := decide ((ro = 1 ∨ ro = 2) ∧ wa = 0)
theorem hopsFitI (h : Int) (w : World) : Calls Tryz.prog 239 #[.int .i64 h] w fun e w' => e = .returned (.bool (decide (0 ≤ h ∧ h ≤ 8))) ∧ w' = w := by
 by_cases h0 : 0 ≤ h
 ·
  by_cases h1 : h ≤ 8
  ·
   rw [decide_eq_true ⟨h0, h1⟩];go_enter Tryz.func239, Tryz.ntmps239
   go_wp2
   go_ret
   exact ⟨rfl, rfl⟩
  have d1 : decide (h ≤ 8) = false := decide_eq_false h1;rw [decide_eq_false (fun q => h1 q.2)];go_enter Tryz.func239, Tryz.ntmps239
  go_wp2
  go_ret
  exact ⟨rfl, rfl⟩
 have d0 : decide (0 ≤ h) = false := decide_eq_false h0;rw [decide_eq_false (fun q => h0 q.1)];go_enter Tryz.func239, Tryz.ntmps239
 go_wp2
 go_ret
 exact ⟨rfl, rfl⟩
end Go.Proofs.YtnpiljegdiconaaGreat
namespace Go.Proofs.YtnpiljegdiconaaGreat
open Go.ChangeShapes Go.WideShapes Go.ChangeAt Go.RowKit
open Go.ChangeMaps (open_string shut_string)
set_option linter.unusedVariables false
set_option maxRecDepth 100000
structure CodeIn (w : World) (ad : Option Addr) (len : Nat) (f : Nat → Int) : Prop where
 lm : len ≤ maxLen
 view : View w ad len f
 lt : ∀ a, ad = some a → 0 < len → a.block < w.heap.size
 bytes : ∀ i, 0 ≤ f i ∧ f i ≤ 255
theorem codeIn_open {H : Type} {enc : TypeId × Value → H} {w : World} {r : Reach} {b0 : Nat} {v : Value} {d : DataW H} {p : List MemPlace} (hv : Value.okWide Tryz.prog w r b0 22 v) (h : DataW.Trod enc Tryz.prog w 0 (fun _ => true) true 22 v d p) :
  ∃ ad len cap f, v = .slice ad len cap ∧ CodeIn w ad len f := by
 obtain ⟨n, hn⟩ := h;obtain ⟨a0, len0, cap0, rfl⟩ := okWide_slice (P := Tryz.prog) (t := 22) (e := 5) Tryz.underlying22 hv;have hcell0 : ∀ x, (Value.slice a0 len0 cap0).cells.toList = [x] → Value.slice a0 len0 cap0 = x := fun x h => by simpa [Value.cells] using h
 rcases open_ints Tryz.underlying22 Tryz.underlying5 (by kernel_rfl) hn with ⟨hcs, _⟩ | ⟨x, l, cp, zs, hcs, _, hl, hm, hz, _, hcell, hwz⟩
 ·
  exact ⟨none, 0, 0, fun _ => 0, hcell0 _ hcs, by unfold maxLen; omega, fun h => absurd h (by omega), fun a h => by simp at h, fun i => by simp⟩
 simp at hz
 refine ⟨some x, l, cp, fun i => zs.getD i 0, hcell0 _ hcs, by omega, fun hp => ?_, fun a h hp => ?_, fun i => ?_⟩
 ·
  obtain ⟨b, off, rfl, hc⟩ := ints_at hcell (by omega);exact ⟨b, off, rfl, fun i hi => hc i (by omega)⟩
 ·
  obtain rfl : x = a := by simpa using h
  have hc := hcell 0 (by omega);simpa [Addr.add] using World.block_lt_of_cell? w _ hc
 by_cases hi : i < zs.length
 ·
  have := bounds_u8 (hwz (zs.getD i 0) (by simp [List.getD, hi]));exact this
 simp [List.getD, List.getElem?_eq_none (by omega : zs.length ≤ i)]
theorem bigYes (ad : Option Addr) (len cap : Nat) (w : World) (h : (1048576 : Int) < (len : Int)) : Calls Tryz.prog 8 #[.slice ad len cap] w fun e w' => e = .returned (.bool true) ∧ w' = w := by
 go_enter Tryz.func8, Tryz.ntmps8
 go_wp2
 go_ret
 exact ⟨rfl, rfl⟩
theorem bigNo (ad : Option Addr) (len cap : Nat) (w : World) (h : len ≤ 1048576) : Calls Tryz.prog 8 #[.slice ad len cap] w fun e w' => e = .returned (.bool false) ∧ w' = w := by
 have h' : decide ((1048576 : Int) < (len : Int)) = false := decide_eq_false (by omega);go_enter Tryz.func8, Tryz.ntmps8
 go_wp2
 go_ret
 exact ⟨rfl, rfl⟩
end Go.Proofs.YtnpiljegdiconaaGreat
