/- Both Better, walked. Cells that are read and written. How a claim comes in. Ports: copied, compared. Both PortOk, walked. Contracts of the small functions over bytes that the laws call. How a code comes in. -/
import Derived.Test.YthgcbihhdbpbdaaGreatDoorRows
import Derived.WalkKit
import Derived.ProofKit
import Derived.OpenShut
import Derived.ShutString
import Derived.ChangeOld
import Derived.Below
import Derived.Deep.QuietTactic
import Derived.BigQuiet
import Derived.WalkSmall
import Derived.Laws.OwnMore
import Derived.WalkSpells
import Derived.WalkLawsBesides
import Derived.Laws.StructEq
import Derived.ChangeKeysEq
import Derived.Test.YthgcbihhdbpbdaaGreatDoorKVec1
import Derived.Lib.SmallJoins
import Derived.Deep.Cut
namespace Go.Proofs.YthgcbihhdbpbdaaGreatDoor
open Go.ChangeShapes Go.WideShapes Go.ChangeAt Go.RowKit
open Go.ChangeMaps (open_string shut_string)
set_option linter.unusedVariables false
set_option maxRecDepth 100000

def vLt (r c b p r2 c2 b2 p2 : Int) : Bool := if r ≠ r2 then decide (r < r2) else if c ≠ c2 then decide (c < c2) else if b ≠ b2 then decide (b < b2) else decide (p < p2)

set_option maxHeartbeats 2000000 in
theorem betterS (r c b p r2 c2 b2 p2 : Int) (w : World) :
    Calls Tryz.prog 128 #[.agg #[.int .i64 r, .int .i64 c, .int .i64 b, .int .i64 p], .agg #[.int .i64 r2, .int .i64 c2, .int .i64 b2, .int .i64 p2]] w fun e w' => e = .returned (.bool (vLt r c b p r2 c2 b2 p2)) ∧ Below w.heap.size w w' := by
  by_cases hr : r = r2
  rotate_left
  · have er : (r == r2) = false := by simp [hr]
    have fr : (r != r2) = true := by simp [hr]
    have e : vLt r c b p r2 c2 b2 p2 = decide (r < r2) := by simp [vLt, hr]
    rw [e]
    clear e
    go_enter Tryz.func128, Tryz.ntmps128
    go_wp2
    go_ret
    exact ⟨rfl, ((Below.refl _ _).alloc (Nat.le_refl _) _).alloc (by simp) _⟩
  subst hr
  by_cases hc : c = c2
  rotate_left
  · have ec : (c == c2) = false := by simp [hc]
    have fc : (c != c2) = true := by simp [hc]
    have e : vLt r c b p r c2 b2 p2 = decide (c < c2) := by simp [vLt, hc]
    rw [e]
    clear e
    go_enter Tryz.func128, Tryz.ntmps128
    go_wp2
    go_ret
    exact ⟨rfl, ((Below.refl _ _).alloc (Nat.le_refl _) _).alloc (by simp) _⟩
  subst hc
  by_cases hb : b = b2
  rotate_left
  · have eb : (b == b2) = false := by simp [hb]
    have fb : (b != b2) = true := by simp [hb]
    have e : vLt r c b p r c b2 p2 = decide (b < b2) := by simp [vLt, hb]
    rw [e]
    clear e
    go_enter Tryz.func128, Tryz.ntmps128
    go_wp2
    go_ret
    exact ⟨rfl, ((Below.refl _ _).alloc (Nat.le_refl _) _).alloc (by simp) _⟩
  subst hb
  have e : vLt r c b p r c b p2 = decide (p < p2) := by simp [vLt]
  rw [e]
  clear e
  go_enter Tryz.func128, Tryz.ntmps128
  go_wp2
  go_ret
  exact ⟨rfl, ((Below.refl _ _).alloc (Nat.le_refl _) _).alloc (by simp) _⟩

def prt (r c b p : Int) (k : Nat) : Int := if k = 0 then r else if k = 1 then c else if k = 2 then b else p

set_option maxHeartbeats 2000000 in
theorem partI (r c b p : Int) (k : Nat) (w : World) (hk : k < 4) :
    Calls Tryz.prog 122 #[.agg #[.int .i64 r, .int .i64 c, .int .i64 b, .int .i64 p], .int .i64 k] w fun e w' => e = .returned (.int .i64 (prt r c b p k)) ∧ Below w.heap.size w w' := by
  obtain rfl | rfl | rfl | rfl : k = 0 ∨ k = 1 ∨ k = 2 ∨ k = 3 := by omega
  · go_enter Tryz.func122, Tryz.ntmps122
    go_wp2
    go_ret
    exact ⟨rfl, (Below.refl _ _).alloc (Nat.le_refl _) _⟩
  · go_enter Tryz.func122, Tryz.ntmps122
    go_wp2
    go_ret
    exact ⟨rfl, (Below.refl _ _).alloc (Nat.le_refl _) _⟩
  · go_enter Tryz.func122, Tryz.ntmps122
    go_wp2
    go_ret
    exact ⟨rfl, (Below.refl _ _).alloc (Nat.le_refl _) _⟩
  · go_enter Tryz.func122, Tryz.ntmps122
    go_wp2
    go_ret
    exact ⟨rfl, (Below.refl _ _).alloc (Nat.le_refl _) _⟩

/-- No part of the first is greater where the first difference lies. -/
def nWo (r c b p r2 c2 b2 p2 : Int) : Bool := if r = r2 ∧ c = c2 ∧ b = b2 ∧ p = p2 then true else vLt r c b p r2 c2 b2 p2

theorem prt_all {r c b p r2 c2 b2 p2 : Int} (h : ∀ j, j < 4 → prt r c b p j = prt r2 c2 b2 p2 j) : nWo r c b p r2 c2 b2 p2 = true := by
  have h0 := h 0 (by omega)
  have h1 := h 1 (by omega)
  have h2 := h 2 (by omega)
  have h3 := h 3 (by omega)
  simp [prt] at h0 h1 h2 h3
  simp [nWo, h0, h1, h2, h3]

theorem prt_at {r c b p r2 c2 b2 p2 : Int} {k : Nat} (hk : k < 4) (h : ∀ j, j < k → prt r c b p j = prt r2 c2 b2 p2 j) (hn : prt r c b p k ≠ prt r2 c2 b2 p2 k) : nWo r c b p r2 c2 b2 p2 = decide (prt r c b p k < prt r2 c2 b2 p2 k) := by
  obtain rfl | rfl | rfl | rfl : k = 0 ∨ k = 1 ∨ k = 2 ∨ k = 3 := by omega
  · simp [prt] at hn; simp [nWo, vLt, prt, hn]
  · have h0 := h 0 (by omega)
    simp [prt] at hn h0; simp [nWo, vLt, prt, hn, h0]
  · have h0 := h 0 (by omega)
    have h1 := h 1 (by omega)
    simp [prt] at hn h0 h1; simp [nWo, vLt, prt, hn, h0, h1]
  · have h0 := h 0 (by omega)
    have h1 := h 1 (by omega)
    have h2 := h 2 (by omega)
    simp [prt] at hn h0 h1 h2; simp [nWo, vLt, prt, hn, h0, h1, h2]

theorem fieldsV : ∃ f0 f1 f2 f3 : Field, (Tryz.prog.fieldsOf 25).toList = [f0, f1, f2, f3] ∧ (f0.name ≠ "_" ∧ f0.type = 3 ∧ f0.offset = 0) ∧ (f1.name ≠ "_" ∧ f1.type = 3 ∧ f1.offset = 1) ∧ (f2.name ≠ "_" ∧ f2.type = 3 ∧ f2.offset = 2) ∧ (f3.name ≠ "_" ∧ f3.type = 3 ∧ f3.offset = 3) := by
  have h : ((Tryz.prog.fieldsOf 25).toList.map fun f => (decide (f.name ≠ "_"), f.type, f.offset)) = [(true, 3, 0), (true, 3, 1), (true, 3, 2), (true, 3, 3)] := by kernel_rfl
  revert h
  generalize (Tryz.prog.fieldsOf 25).toList = L
  intro h
  rcases L with _ | ⟨f0, _ | ⟨f1, _ | ⟨f2, _ | ⟨f3, _ | ⟨f4, L⟩⟩⟩⟩⟩ <;> simp at h
  obtain ⟨⟨a0, a1, a2⟩, ⟨b0, b1, b2⟩, ⟨c0, c1, c2⟩, d0, d1, d2⟩ := h
  exact ⟨f0, f1, f2, f3, rfl, ⟨a0, a1, a2⟩, ⟨b0, b1, b2⟩, ⟨c0, c1, c2⟩, d0, d1, d2⟩

theorem eqV (r c b p r2 c2 b2 p2 : Int) (w : World) : (Op.equalIn 10000 25 (.agg #[.int .i64 r, .int .i64 c, .int .i64 b, .int .i64 p]) (.agg #[.int .i64 r2, .int .i64 c2, .int .i64 b2, .int .i64 p2])).run Tryz.prog w = .ok (decide (r = r2 ∧ c = c2 ∧ b = b2 ∧ p = p2)) w := by
  rw [show (10000 : Nat) = 9999 + 1 from rfl, run_equalIn_struct w 9999 25 _ _ (by kernel_rfl) (by kernel_rfl)]
  obtain ⟨f0, f1, f2, f3, hL, ⟨x0, x1, x2⟩, ⟨y0, y1, y2⟩, ⟨z0, z1, z2⟩, u0, u1, u2⟩ := fieldsV
  have h3 : Tryz.prog.underlying 3 = some (.int .i64) := by kernel_rfl
  have hb : ∀ (x y : Int), (Op.equalIn 9999 3 (.int .i64 x) (.int .i64 y)).run Tryz.prog w = .ok (x == y) w := fun x y => run_equalIn_int w 9998 3 .i64 .i64 x y h3
  have hp : Tryz.prog.plainKey 3 = true := by kernel_rfl
  have p0 : ∀ (x0 x1 x2 x3 : Value), (part 3 #[x0, x1, x2, x3] 0).run Tryz.prog w = .ok x0 w := fun x0 x1 x2 x3 => run_part_plain w hp rfl
  have p1 : ∀ (x0 x1 x2 x3 : Value), (part 3 #[x0, x1, x2, x3] 1).run Tryz.prog w = .ok x1 w := fun x0 x1 x2 x3 => run_part_plain w hp rfl
  have q2 : ∀ (x0 x1 x2 x3 : Value), (part 3 #[x0, x1, x2, x3] 2).run Tryz.prog w = .ok x2 w := fun x0 x1 x2 x3 => run_part_plain w hp rfl
  have p3 : ∀ (x0 x1 x2 x3 : Value), (part 3 #[x0, x1, x2, x3] 3).run Tryz.prog w = .ok x3 w := fun x0 x1 x2 x3 => run_part_plain w hp rfl
  rw [hL]
  simp only [Op.eqFields, if_pos x0, if_pos y0, if_pos z0, if_pos u0, x1, x2, y1, y2, z1, z2, u1, u2, Sem.run_bind]
  rw [p0, Result.andThen_ok, p0, Result.andThen_ok, hb, Result.andThen_ok]
  by_cases e0 : r = r2
  rotate_left
  · simp [e0]
  simp only [e0, beq_self_eq_true, Bool.not_true, Bool.false_eq_true, if_false, Sem.run_bind, true_and]
  rw [p1, Result.andThen_ok, p1, Result.andThen_ok, hb, Result.andThen_ok]
  by_cases e1 : c = c2
  rotate_left
  · simp [e1]
  simp only [e1, beq_self_eq_true, Bool.not_true, Bool.false_eq_true, if_false, Sem.run_bind, true_and]
  rw [q2, Result.andThen_ok, q2, Result.andThen_ok, hb, Result.andThen_ok]
  by_cases e2 : b = b2
  rotate_left
  · simp [e2]
  simp only [e2, beq_self_eq_true, Bool.not_true, Bool.false_eq_true, if_false, Sem.run_bind, true_and]
  rw [p3, Result.andThen_ok, p3, Result.andThen_ok, hb, Result.andThen_ok]
  by_cases e3 : p = p2
  · simp [e3]
  · simp [e3]

end Go.Proofs.YthgcbihhdbpbdaaGreatDoor
namespace Go.Proofs.YthgcbihhdbpbdaaGreatDoor
open Go.ChangeShapes Go.WideShapes Go.ChangeAt Go.RowKit
open Go.ChangeMaps (open_string shut_string)
set_option linter.unusedVariables false
set_option maxRecDepth 100000

/-- The slice at 'ad' of 'len' bytes reads, in the world w, as the numbers f 0, f 1, .. -/
def View (w : World) (ad : Option Addr) (len : Nat) (f : Nat → Int) : Prop :=
  0 < len → ∃ b off, ad = some ⟨b, off, none⟩ ∧ ∀ i, i < len → w.cell? ⟨b, off + i, none⟩ = some (.int .u8 (f i))
/-- Its cells may be written. -/
def Room (w : World) (ad : Option Addr) (len : Nat) : Prop :=
  0 < len → ∃ b off, ad = some ⟨b, off, none⟩ ∧ ∀ i, i < len → (∃ u, w.cell? ⟨b, off + i, none⟩ = some u) ∧ w.frozen? ⟨b, off + i, none⟩ = false

theorem View.mk0 {w : World} {b len : Nat} {f : Nat → Int} (h : ∀ i, i < len → w.cell? ⟨b, i, none⟩ = some (.int .u8 (f i))) : View w (some ⟨b, 0, none⟩) len f :=
  fun _ => ⟨b, 0, rfl, fun i hi => by rw [Nat.zero_add]; exact h i hi⟩
theorem View.carry {w w' : World} {ad : Option Addr} {len : Nat} {f : Nat → Int} (h : View w ad len f) (hb : ∀ a, ad = some a → 0 < len → w'.heap[a.block]? = w.heap[a.block]?) : View w' ad len f :=
  fun hp => by
    obtain ⟨b, off, e, hc⟩ := h hp
    exact ⟨b, off, e, fun i hi => (World.cell?_of_block (a := ⟨b, off + i, none⟩) (hb ⟨b, off, none⟩ e hp)).trans (hc i hi)⟩
theorem Room.carry {w w' : World} {ad : Option Addr} {len : Nat} (h : Room w ad len) (hb : ∀ a, ad = some a → 0 < len → w'.heap[a.block]? = w.heap[a.block]?) : Room w' ad len :=
  fun hp => by
    obtain ⟨b, off, e, hc⟩ := h hp
    refine ⟨b, off, e, fun i hi => ⟨?_, ?_⟩⟩
    · obtain ⟨u, hu⟩ := (hc i hi).1
      exact ⟨u, (World.cell?_of_block (a := ⟨b, off + i, none⟩) (hb ⟨b, off, none⟩ e hp)).trans hu⟩
    · exact (World.frozen?_of_block (a := ⟨b, off + i, none⟩) (hb ⟨b, off, none⟩ e hp)).trans (hc i hi).2
theorem View.congr {w : World} {ad : Option Addr} {len : Nat} {f g : Nat → Int} (h : View w ad len f) (e : ∀ i, i < len → f i = g i) : View w ad len g :=
  fun hp => by
    obtain ⟨b, off, e', hc⟩ := h hp
    exact ⟨b, off, e', fun i hi => by rw [← e i hi]; exact hc i hi⟩
theorem cell_set_same {w : World} {b j : Nat} {v : Value} (h : ∃ u, w.cell? ⟨b, j, none⟩ = some u) : (w.setCell ⟨b, j, none⟩ v).cell? ⟨b, j, none⟩ = some v := by
  obtain ⟨u, hu⟩ := h
  exact World.cell?_setCell_same _ _ _ hu
theorem cell_set_ne {w : World} {b j i : Nat} {v : Value} (h : i ≠ j) : (w.setCell ⟨b, j, none⟩ v).cell? ⟨b, i, none⟩ = w.cell? ⟨b, i, none⟩ :=
  World.cell?_setCell_other _ _ _ _ (fun e => h (by injection e with _ e2; exact e2.symm))
/-- What a slice of bytes that the call itself owns is good for. -/
theorem own_view {w : World} {base E n : Nat} {v : Value} {L : List Int} (h : w.ownsRow base E 1 v n (L.map (Value.int .u8))) :
    n = L.length ∧ ∃ ad cap, v = .slice ad n cap ∧ View w ad n (fun i => L.getD i 0) ∧ Room w ad n ∧ ∀ a, ad = some a → base ≤ a.block ∧ a.block < w.heap.size := by
  have hn : n = L.length := by have := h.1; simp at this; omega
  refine ⟨hn, ?_⟩
  rcases h.2 with ⟨rfl, h0⟩ | ⟨g, cap, cur, rfl, hb, hg, hnc, hcm, hcs, htk⟩
  · exact ⟨none, 0, by rw [h0], fun hp => absurd hp (by omega), fun hp => absurd hp (by omega), fun a e => by simp at e⟩
  · have hc : ∀ i, i < n → w.cell? ⟨g, i, none⟩ = some (.int .u8 (L.getD i 0)) := fun i hi => by
      rw [h.cellAt i (by omega), List.getElem?_map, List.getElem?_eq_getElem (by omega)]
      simp [List.getD, List.getElem?_eq_getElem (by omega : i < L.length)]
    refine ⟨some ⟨g, 0, none⟩, cap, rfl, View.mk0 hc, fun _ => ⟨g, 0, rfl, fun i hi => ?_⟩, fun a e => ?_⟩
    · rw [Nat.zero_add]
      exact ⟨⟨_, hc i hi⟩, h.frozenAt i⟩
    · obtain rfl : (⟨g, 0, none⟩ : Addr) = a := by simpa using e
      exact ⟨hb, (Array.getElem?_eq_some_iff.1 hg).1⟩

theorem below_box (w : World) (o : Obj) : Below w.heap.size w (w.alloc o) := (Below.refl _ _).alloc (Nat.le_refl _) _
theorem size_box (w : World) (o : Obj) : w.heap.size < (w.alloc o).heap.size := by simp

end Go.Proofs.YthgcbihhdbpbdaaGreatDoor
namespace Go.Proofs.YthgcbihhdbpbdaaGreatDoor
open Go.ChangeShapes Go.WideShapes Go.ChangeAt Go.RowKit
open Go.ChangeMaps (open_string shut_string)
set_option linter.unusedVariables false
set_option maxRecDepth 100000

/-- The four numbers of a claim fit. -/
structure VecWf (r c b p : Int) : Prop where
  wr : (Lit.int .i64 r).wf = true
  wc : (Lit.int .i64 c).wf = true
  wb : (Lit.int .i64 b).wf = true
  wp : (Lit.int .i64 p).wf = true
/-- What a claim's four cells hold, in a world. -/
def VecAt (w : World) (q : Nat) (r c b p : Int) : Prop :=
  w.cell? ⟨q, 0, none⟩ = some (.int .i64 r) ∧ w.cell? ⟨q, 1, none⟩ = some (.int .i64 c) ∧ w.cell? ⟨q, 2, none⟩ = some (.int .i64 b) ∧ w.cell? ⟨q, 3, none⟩ = some (.int .i64 p)
theorem VecAt.below {w w' : World} {q n : Nat} {r c b p : Int} (h : VecAt w q r c b p) (k : Below n w w') (hq : q < n) : VecAt w' q r c b p :=
  ⟨(k.cell (p := ⟨q, 0, none⟩) hq).trans h.1, (k.cell (p := ⟨q, 1, none⟩) hq).trans h.2.1, (k.cell (p := ⟨q, 2, none⟩) hq).trans h.2.2.1, (k.cell (p := ⟨q, 3, none⟩) hq).trans h.2.2.2⟩
theorem vecAt_box (w : World) (t : TypeId) (r c b p : Int) : VecAt (w.alloc (Obj.cells #[.int .i64 r, .int .i64 c, .int .i64 b, .int .i64 p] t)) w.heap.size r c b p := by
  refine ⟨?_, ?_, ?_, ?_⟩ <;> simp [go_sem]


end Go.Proofs.YthgcbihhdbpbdaaGreatDoor
namespace Go.Proofs.YthgcbihhdbpbdaaGreatDoor
open Go.ChangeShapes Go.WideShapes Go.ChangeAt Go.RowKit
open Go.ChangeMaps (open_string shut_string)
set_option linter.unusedVariables false
set_option maxRecDepth 100000

/-- A port: eleven cells. -/
structure Pt where
  up : Bool
  has : Bool
  r : Int
  c : Int
  b : Int
  p : Int
  h : Int
  l : Int
  ro : Int
  wa : Int
  op : Bool
/-- What a port's cells hold, in a world. -/
structure PtAt (w : World) (q : Nat) (x : Pt) : Prop where
  c0 : w.cell? ⟨q, 0, none⟩ = some (.bool x.up)
  c1 : w.cell? ⟨q, 1, none⟩ = some (.bool x.has)
  c2 : w.cell? ⟨q, 2, none⟩ = some (.int .i64 x.r)
  c3 : w.cell? ⟨q, 3, none⟩ = some (.int .i64 x.c)
  c4 : w.cell? ⟨q, 4, none⟩ = some (.int .i64 x.b)
  c5 : w.cell? ⟨q, 5, none⟩ = some (.int .i64 x.p)
  c6 : w.cell? ⟨q, 6, none⟩ = some (.int .i64 x.h)
  c7 : w.cell? ⟨q, 7, none⟩ = some (.int .i64 x.l)
  c8 : w.cell? ⟨q, 8, none⟩ = some (.int .i64 x.ro)
  c9 : w.cell? ⟨q, 9, none⟩ = some (.int .i64 x.wa)
  c10 : w.cell? ⟨q, 10, none⟩ = some (.bool x.op)
theorem PtAt.keep {w w' : World} {q : Nat} {x : Pt} (h : PtAt w q x) (k : w'.heap[q]? = w.heap[q]?) : PtAt w' q x :=
  ⟨(World.cell?_of_block (a := ⟨q, 0, none⟩) k).trans h.c0, (World.cell?_of_block (a := ⟨q, 1, none⟩) k).trans h.c1, (World.cell?_of_block (a := ⟨q, 2, none⟩) k).trans h.c2, (World.cell?_of_block (a := ⟨q, 3, none⟩) k).trans h.c3, (World.cell?_of_block (a := ⟨q, 4, none⟩) k).trans h.c4, (World.cell?_of_block (a := ⟨q, 5, none⟩) k).trans h.c5, (World.cell?_of_block (a := ⟨q, 6, none⟩) k).trans h.c6, (World.cell?_of_block (a := ⟨q, 7, none⟩) k).trans h.c7, (World.cell?_of_block (a := ⟨q, 8, none⟩) k).trans h.c8, (World.cell?_of_block (a := ⟨q, 9, none⟩) k).trans h.c9, (World.cell?_of_block (a := ⟨q, 10, none⟩) k).trans h.c10⟩
theorem PtAt.below {w w' : World} {q n : Nat} {x : Pt} (h : PtAt w q x) (k : Below n w w') (hq : q < n) : PtAt w' q x := h.keep (k.block q hq)
theorem PtAt.lt {w : World} {q : Nat} {x : Pt} (h : PtAt w q x) : q < w.heap.size := World.block_lt_of_cell? w _ h.c0
theorem ptAt_box (w : World) (t : TypeId) (x : Pt) : PtAt (w.alloc (Obj.cells #[.bool x.up, .bool x.has, .int .i64 x.r, .int .i64 x.c, .int .i64 x.b, .int .i64 x.p, .int .i64 x.h, .int .i64 x.l, .int .i64 x.ro, .int .i64 x.wa, .bool x.op] t)) w.heap.size x := by
  refine ⟨?_, ?_, ?_, ?_, ?_, ?_, ?_, ?_, ?_, ?_, ?_⟩ <;> simp [go_sem]
/-- A port's box: what its cells hold, and that they may be written. -/
structure PBox (w : World) (q : Nat) (x : Pt) : Prop where
  at_ : PtAt w q x
  fr : ∀ i, w.frozen? ⟨q, i, none⟩ = false
theorem PBox.keep {w w' : World} {q : Nat} {x : Pt} (h : PBox w q x) (k : w'.heap[q]? = w.heap[q]?) : PBox w' q x :=
  ⟨h.at_.keep k, fun i => (World.frozen?_of_block (a := ⟨q, i, none⟩) k).trans (h.fr i)⟩
theorem PBox.lt {w : World} {q : Nat} {x : Pt} (h : PBox w q x) : q < w.heap.size := h.at_.lt
theorem PBox.new (w : World) (t : TypeId) (x : Pt) : PBox (w.alloc (Obj.cells #[.bool x.up, .bool x.has, .int .i64 x.r, .int .i64 x.c, .int .i64 x.b, .int .i64 x.p, .int .i64 x.h, .int .i64 x.l, .int .i64 x.ro, .int .i64 x.wa, .bool x.op] t)) w.heap.size x := ⟨ptAt_box w t x, fun i => by simp [go_sem]⟩
theorem PBox.alloc {w : World} {q : Nat} {x : Pt} (h : PBox w q x) (o : Obj) : PBox (w.alloc o) q x := h.keep (Below.heap_alloc w o q h.lt)
theorem PBox.grown {w w' : World} {q cb : Nat} {x : Pt} (h : PBox w q x) (g : w.grownBy w' (some cb)) (hne : q ≠ cb) : PBox w' q x := h.keep (g.block q h.lt (by simpa using hne))
theorem PBox.below {w w' : World} {q n : Nat} {x : Pt} (h : PBox w q x) (g : Below n w w') (hq : q < n) : PBox w' q x := h.keep (g.block q hq)
theorem PBox.other {w : World} {q q' i : Nat} {x : Pt} {v : Value} (h : PBox w q x) (hne : q ≠ q') : PBox (w.setCell ⟨q', i, none⟩ v) q x := h.keep (Below.heap_setCell _ _ _ _ hne)
theorem PtAt.other {w : World} {q q' i : Nat} {x : Pt} {v : Value} (h : PtAt w q x) (hne : q ≠ q') : PtAt (w.setCell ⟨q', i, none⟩ v) q x := h.keep (Below.heap_setCell _ _ _ _ hne)
theorem pset_same {w : World} {q i : Nat} {u v : Value} (h : w.cell? ⟨q, i, none⟩ = some u) : (w.setCell ⟨q, i, none⟩ v).cell? ⟨q, i, none⟩ = some v := cell_set_same ⟨_, h⟩
theorem pset_else {w : World} {q i j : Nat} {v : Value} (h : i ≠ j) : (w.setCell ⟨q, i, none⟩ v).cell? ⟨q, j, none⟩ = w.cell? ⟨q, j, none⟩ := cell_set_ne (Ne.symm h)
theorem PBox.set0 {w : World} {q : Nat} {x : Pt} (z : Bool) (h : PBox w q x) : PBox (w.setCell ⟨q, 0, none⟩ (.bool z)) q { x with up := z } :=
  ⟨⟨pset_same h.at_.c0, (pset_else (by decide)).trans h.at_.c1, (pset_else (by decide)).trans h.at_.c2, (pset_else (by decide)).trans h.at_.c3, (pset_else (by decide)).trans h.at_.c4, (pset_else (by decide)).trans h.at_.c5, (pset_else (by decide)).trans h.at_.c6, (pset_else (by decide)).trans h.at_.c7, (pset_else (by decide)).trans h.at_.c8, (pset_else (by decide)).trans h.at_.c9, (pset_else (by decide)).trans h.at_.c10⟩, fun i => by rw [World.frozen?_setCell]; exact h.fr i⟩
theorem PBox.set1 {w : World} {q : Nat} {x : Pt} (z : Bool) (h : PBox w q x) : PBox (w.setCell ⟨q, 1, none⟩ (.bool z)) q { x with has := z } :=
  ⟨⟨(pset_else (by decide)).trans h.at_.c0, pset_same h.at_.c1, (pset_else (by decide)).trans h.at_.c2, (pset_else (by decide)).trans h.at_.c3, (pset_else (by decide)).trans h.at_.c4, (pset_else (by decide)).trans h.at_.c5, (pset_else (by decide)).trans h.at_.c6, (pset_else (by decide)).trans h.at_.c7, (pset_else (by decide)).trans h.at_.c8, (pset_else (by decide)).trans h.at_.c9, (pset_else (by decide)).trans h.at_.c10⟩, fun i => by rw [World.frozen?_setCell]; exact h.fr i⟩
theorem PBox.set2 {w : World} {q : Nat} {x : Pt} (z : Int) (h : PBox w q x) : PBox (w.setCell ⟨q, 2, none⟩ (.int .i64 z)) q { x with r := z } :=
  ⟨⟨(pset_else (by decide)).trans h.at_.c0, (pset_else (by decide)).trans h.at_.c1, pset_same h.at_.c2, (pset_else (by decide)).trans h.at_.c3, (pset_else (by decide)).trans h.at_.c4, (pset_else (by decide)).trans h.at_.c5, (pset_else (by decide)).trans h.at_.c6, (pset_else (by decide)).trans h.at_.c7, (pset_else (by decide)).trans h.at_.c8, (pset_else (by decide)).trans h.at_.c9, (pset_else (by decide)).trans h.at_.c10⟩, fun i => by rw [World.frozen?_setCell]; exact h.fr i⟩
theorem PBox.set3 {w : World} {q : Nat} {x : Pt} (z : Int) (h : PBox w q x) : PBox (w.setCell ⟨q, 3, none⟩ (.int .i64 z)) q { x with c := z } :=
  ⟨⟨(pset_else (by decide)).trans h.at_.c0, (pset_else (by decide)).trans h.at_.c1, (pset_else (by decide)).trans h.at_.c2, pset_same h.at_.c3, (pset_else (by decide)).trans h.at_.c4, (pset_else (by decide)).trans h.at_.c5, (pset_else (by decide)).trans h.at_.c6, (pset_else (by decide)).trans h.at_.c7, (pset_else (by decide)).trans h.at_.c8, (pset_else (by decide)).trans h.at_.c9, (pset_else (by decide)).trans h.at_.c10⟩, fun i => by rw [World.frozen?_setCell]; exact h.fr i⟩
theorem PBox.set4 {w : World} {q : Nat} {x : Pt} (z : Int) (h : PBox w q x) : PBox (w.setCell ⟨q, 4, none⟩ (.int .i64 z)) q { x with b := z } :=
  ⟨⟨(pset_else (by decide)).trans h.at_.c0, (pset_else (by decide)).trans h.at_.c1, (pset_else (by decide)).trans h.at_.c2, (pset_else (by decide)).trans h.at_.c3, pset_same h.at_.c4, (pset_else (by decide)).trans h.at_.c5, (pset_else (by decide)).trans h.at_.c6, (pset_else (by decide)).trans h.at_.c7, (pset_else (by decide)).trans h.at_.c8, (pset_else (by decide)).trans h.at_.c9, (pset_else (by decide)).trans h.at_.c10⟩, fun i => by rw [World.frozen?_setCell]; exact h.fr i⟩
theorem PBox.set5 {w : World} {q : Nat} {x : Pt} (z : Int) (h : PBox w q x) : PBox (w.setCell ⟨q, 5, none⟩ (.int .i64 z)) q { x with p := z } :=
  ⟨⟨(pset_else (by decide)).trans h.at_.c0, (pset_else (by decide)).trans h.at_.c1, (pset_else (by decide)).trans h.at_.c2, (pset_else (by decide)).trans h.at_.c3, (pset_else (by decide)).trans h.at_.c4, pset_same h.at_.c5, (pset_else (by decide)).trans h.at_.c6, (pset_else (by decide)).trans h.at_.c7, (pset_else (by decide)).trans h.at_.c8, (pset_else (by decide)).trans h.at_.c9, (pset_else (by decide)).trans h.at_.c10⟩, fun i => by rw [World.frozen?_setCell]; exact h.fr i⟩
theorem PBox.set6 {w : World} {q : Nat} {x : Pt} (z : Int) (h : PBox w q x) : PBox (w.setCell ⟨q, 6, none⟩ (.int .i64 z)) q { x with h := z } :=
  ⟨⟨(pset_else (by decide)).trans h.at_.c0, (pset_else (by decide)).trans h.at_.c1, (pset_else (by decide)).trans h.at_.c2, (pset_else (by decide)).trans h.at_.c3, (pset_else (by decide)).trans h.at_.c4, (pset_else (by decide)).trans h.at_.c5, pset_same h.at_.c6, (pset_else (by decide)).trans h.at_.c7, (pset_else (by decide)).trans h.at_.c8, (pset_else (by decide)).trans h.at_.c9, (pset_else (by decide)).trans h.at_.c10⟩, fun i => by rw [World.frozen?_setCell]; exact h.fr i⟩
theorem PBox.set7 {w : World} {q : Nat} {x : Pt} (z : Int) (h : PBox w q x) : PBox (w.setCell ⟨q, 7, none⟩ (.int .i64 z)) q { x with l := z } :=
  ⟨⟨(pset_else (by decide)).trans h.at_.c0, (pset_else (by decide)).trans h.at_.c1, (pset_else (by decide)).trans h.at_.c2, (pset_else (by decide)).trans h.at_.c3, (pset_else (by decide)).trans h.at_.c4, (pset_else (by decide)).trans h.at_.c5, (pset_else (by decide)).trans h.at_.c6, pset_same h.at_.c7, (pset_else (by decide)).trans h.at_.c8, (pset_else (by decide)).trans h.at_.c9, (pset_else (by decide)).trans h.at_.c10⟩, fun i => by rw [World.frozen?_setCell]; exact h.fr i⟩
theorem PBox.set8 {w : World} {q : Nat} {x : Pt} (z : Int) (h : PBox w q x) : PBox (w.setCell ⟨q, 8, none⟩ (.int .i64 z)) q { x with ro := z } :=
  ⟨⟨(pset_else (by decide)).trans h.at_.c0, (pset_else (by decide)).trans h.at_.c1, (pset_else (by decide)).trans h.at_.c2, (pset_else (by decide)).trans h.at_.c3, (pset_else (by decide)).trans h.at_.c4, (pset_else (by decide)).trans h.at_.c5, (pset_else (by decide)).trans h.at_.c6, (pset_else (by decide)).trans h.at_.c7, pset_same h.at_.c8, (pset_else (by decide)).trans h.at_.c9, (pset_else (by decide)).trans h.at_.c10⟩, fun i => by rw [World.frozen?_setCell]; exact h.fr i⟩
theorem PBox.set9 {w : World} {q : Nat} {x : Pt} (z : Int) (h : PBox w q x) : PBox (w.setCell ⟨q, 9, none⟩ (.int .i64 z)) q { x with wa := z } :=
  ⟨⟨(pset_else (by decide)).trans h.at_.c0, (pset_else (by decide)).trans h.at_.c1, (pset_else (by decide)).trans h.at_.c2, (pset_else (by decide)).trans h.at_.c3, (pset_else (by decide)).trans h.at_.c4, (pset_else (by decide)).trans h.at_.c5, (pset_else (by decide)).trans h.at_.c6, (pset_else (by decide)).trans h.at_.c7, (pset_else (by decide)).trans h.at_.c8, pset_same h.at_.c9, (pset_else (by decide)).trans h.at_.c10⟩, fun i => by rw [World.frozen?_setCell]; exact h.fr i⟩
theorem PBox.set10 {w : World} {q : Nat} {x : Pt} (z : Bool) (h : PBox w q x) : PBox (w.setCell ⟨q, 10, none⟩ (.bool z)) q { x with op := z } :=
  ⟨⟨(pset_else (by decide)).trans h.at_.c0, (pset_else (by decide)).trans h.at_.c1, (pset_else (by decide)).trans h.at_.c2, (pset_else (by decide)).trans h.at_.c3, (pset_else (by decide)).trans h.at_.c4, (pset_else (by decide)).trans h.at_.c5, (pset_else (by decide)).trans h.at_.c6, (pset_else (by decide)).trans h.at_.c7, (pset_else (by decide)).trans h.at_.c8, (pset_else (by decide)).trans h.at_.c9, pset_same h.at_.c10⟩, fun i => by rw [World.frozen?_setCell]; exact h.fr i⟩
end Go.Proofs.YthgcbihhdbpbdaaGreatDoor
namespace Go.Proofs.YthgcbihhdbpbdaaGreatDoor
open Go.ChangeShapes Go.WideShapes Go.ChangeAt Go.RowKit
open Go.ChangeMaps (open_string shut_string)
set_option linter.unusedVariables false
set_option maxRecDepth 100000

/-- Two ports are alike. -/
def ptEq (x y : Pt) : Bool := decide (x.up = y.up ∧ x.has = y.has ∧ x.r = y.r ∧ x.c = y.c ∧ x.b = y.b ∧ x.p = y.p ∧ x.h = y.h ∧ x.l = y.l ∧ x.ro = y.ro ∧ x.wa = y.wa ∧ x.op = y.op)
theorem ptEq_refl (x : Pt) : ptEq x x = true := by simp [ptEq]
theorem eqV9 (r c b p r2 c2 b2 p2 : Int) (w : World) : (Op.equalIn 9999 25 (.agg #[.int .i64 r, .int .i64 c, .int .i64 b, .int .i64 p]) (.agg #[.int .i64 r2, .int .i64 c2, .int .i64 b2, .int .i64 p2])).run Tryz.prog w = .ok (decide (r = r2 ∧ c = c2 ∧ b = b2 ∧ p = p2)) w := by
  rw [show (9999 : Nat) = 9998 + 1 from rfl, run_equalIn_struct w 9998 25 _ _ (by kernel_rfl) (by kernel_rfl)]
  obtain ⟨f0, f1, f2, f3, hL, ⟨x0, x1, x2⟩, ⟨y0, y1, y2⟩, ⟨z0, z1, z2⟩, u0, u1, u2⟩ := fieldsV
  have h3 : Tryz.prog.underlying 3 = some (.int .i64) := by kernel_rfl
  have hb : ∀ (x y : Int), (Op.equalIn 9998 3 (.int .i64 x) (.int .i64 y)).run Tryz.prog w = .ok (x == y) w := fun x y => run_equalIn_int w 9997 3 .i64 .i64 x y h3
  have hp : Tryz.prog.plainKey 3 = true := by kernel_rfl
  have p0 : ∀ (x0 x1 x2 x3 : Value), (part 3 #[x0, x1, x2, x3] 0).run Tryz.prog w = .ok x0 w := fun x0 x1 x2 x3 => run_part_plain w hp rfl
  have p1 : ∀ (x0 x1 x2 x3 : Value), (part 3 #[x0, x1, x2, x3] 1).run Tryz.prog w = .ok x1 w := fun x0 x1 x2 x3 => run_part_plain w hp rfl
  have q2 : ∀ (x0 x1 x2 x3 : Value), (part 3 #[x0, x1, x2, x3] 2).run Tryz.prog w = .ok x2 w := fun x0 x1 x2 x3 => run_part_plain w hp rfl
  have p3 : ∀ (x0 x1 x2 x3 : Value), (part 3 #[x0, x1, x2, x3] 3).run Tryz.prog w = .ok x3 w := fun x0 x1 x2 x3 => run_part_plain w hp rfl
  rw [hL]
  simp only [Op.eqFields, if_pos x0, if_pos y0, if_pos z0, if_pos u0, x1, x2, y1, y2, z1, z2, u1, u2, Sem.run_bind]
  rw [p0, Result.andThen_ok, p0, Result.andThen_ok, hb, Result.andThen_ok]
  by_cases e0 : r = r2
  rotate_left
  · simp [e0]
  simp only [e0, beq_self_eq_true, Bool.not_true, Bool.false_eq_true, if_false, Sem.run_bind, true_and]
  rw [p1, Result.andThen_ok, p1, Result.andThen_ok, hb, Result.andThen_ok]
  by_cases e1 : c = c2
  rotate_left
  · simp [e1]
  simp only [e1, beq_self_eq_true, Bool.not_true, Bool.false_eq_true, if_false, Sem.run_bind, true_and]
  rw [q2, Result.andThen_ok, q2, Result.andThen_ok, hb, Result.andThen_ok]
  by_cases e2 : b = b2
  rotate_left
  · simp [e2]
  simp only [e2, beq_self_eq_true, Bool.not_true, Bool.false_eq_true, if_false, Sem.run_bind, true_and]
  rw [p3, Result.andThen_ok, p3, Result.andThen_ok, hb, Result.andThen_ok]
  by_cases e3 : p = p2
  · simp [e3]
  · simp [e3]
theorem fieldsP : ∃ f0 f1 f2 f3 f4 f5 f6 f7 : Field, (Tryz.prog.fieldsOf 47).toList = [f0, f1, f2, f3, f4, f5, f6, f7] ∧ (f0.name ≠ "_" ∧ f0.type = 4 ∧ f0.offset = 0) ∧ (f1.name ≠ "_" ∧ f1.type = 4 ∧ f1.offset = 1) ∧ (f2.name ≠ "_" ∧ f2.type = 25 ∧ f2.offset = 2) ∧ (f3.name ≠ "_" ∧ f3.type = 3 ∧ f3.offset = 6) ∧ (f4.name ≠ "_" ∧ f4.type = 3 ∧ f4.offset = 7) ∧ (f5.name ≠ "_" ∧ f5.type = 3 ∧ f5.offset = 8) ∧ (f6.name ≠ "_" ∧ f6.type = 3 ∧ f6.offset = 9) ∧ (f7.name ≠ "_" ∧ f7.type = 4 ∧ f7.offset = 10) := by
  have h : ((Tryz.prog.fieldsOf 47).toList.map fun f => (decide (f.name ≠ "_"), f.type, f.offset)) = [(true, 4, 0), (true, 4, 1), (true, 25, 2), (true, 3, 6), (true, 3, 7), (true, 3, 8), (true, 3, 9), (true, 4, 10)] := by kernel_rfl
  revert h
  generalize (Tryz.prog.fieldsOf 47).toList = L
  intro h
  rcases L with _ | ⟨f0, _ | ⟨f1, _ | ⟨f2, _ | ⟨f3, _ | ⟨f4, _ | ⟨f5, _ | ⟨f6, _ | ⟨f7, _ | ⟨f8, L⟩⟩⟩⟩⟩⟩⟩⟩⟩ <;> simp at h
  exact ⟨f0, f1, f2, f3, f4, f5, f6, f7, rfl, by simpa using h⟩
set_option maxHeartbeats 1000000 in
theorem eqPt (x y : Pt) (w : World) : (Op.equalIn 10000 47 (.agg #[.bool x.up, .bool x.has, .int .i64 x.r, .int .i64 x.c, .int .i64 x.b, .int .i64 x.p, .int .i64 x.h, .int .i64 x.l, .int .i64 x.ro, .int .i64 x.wa, .bool x.op]) (.agg #[.bool y.up, .bool y.has, .int .i64 y.r, .int .i64 y.c, .int .i64 y.b, .int .i64 y.p, .int .i64 y.h, .int .i64 y.l, .int .i64 y.ro, .int .i64 y.wa, .bool y.op])).run Tryz.prog w = .ok (ptEq x y) w := by
  rw [show (10000 : Nat) = 9999 + 1 from rfl, run_equalIn_struct w 9999 47 _ _ (by kernel_rfl) (by kernel_rfl)]
  obtain ⟨f0, f1, f2, f3, f4, f5, f6, f7, hL, ⟨n0, t0, o0⟩, ⟨n1, t1, o1⟩, ⟨n2, t2, o2⟩, ⟨n3, t3, o3⟩, ⟨n4, t4, o4⟩, ⟨n5, t5, o5⟩, ⟨n6, t6, o6⟩, ⟨n7, t7, o7⟩⟩ := fieldsP
  have h3 : Tryz.prog.underlying 3 = some (.int .i64) := by kernel_rfl
  have h4 : Tryz.prog.underlying 4 = some .bool := by kernel_rfl
  have hi : ∀ (x y : Int), (Op.equalIn 9999 3 (.int .i64 x) (.int .i64 y)).run Tryz.prog w = .ok (x == y) w := fun x y => run_equalIn_int w 9998 3 .i64 .i64 x y h3
  have hb : ∀ (x y : Bool), (Op.equalIn 9999 4 (.bool x) (.bool y)).run Tryz.prog w = .ok (x == y) w := fun x y => run_equalIn_bool w 9998 4 x y h4
  have k3 : Tryz.prog.plainKey 3 = true := by kernel_rfl
  have k4 : Tryz.prog.plainKey 4 = true := by kernel_rfl
  have p0 : ∀ (x0 x1 x2 x3 x4 x5 x6 x7 x8 x9 x10 : Value), (part 4 #[x0, x1, x2, x3, x4, x5, x6, x7, x8, x9, x10] 0).run Tryz.prog w = .ok x0 w := fun x0 x1 x2 x3 x4 x5 x6 x7 x8 x9 x10 => run_part_plain w k4 rfl
  have p1 : ∀ (x0 x1 x2 x3 x4 x5 x6 x7 x8 x9 x10 : Value), (part 4 #[x0, x1, x2, x3, x4, x5, x6, x7, x8, x9, x10] 1).run Tryz.prog w = .ok x1 w := fun x0 x1 x2 x3 x4 x5 x6 x7 x8 x9 x10 => run_part_plain w k4 rfl
  have p2 : ∀ (x0 x1 x2 x3 x4 x5 x6 x7 x8 x9 x10 : Value), (part 25 #[x0, x1, x2, x3, x4, x5, x6, x7, x8, x9, x10] 2).run Tryz.prog w = .ok (.agg #[x2, x3, x4, x5]) w := fun x0 x1 x2 x3 x4 x5 x6 x7 x8 x9 x10 => by kernel_rfl
  have p3 : ∀ (x0 x1 x2 x3 x4 x5 x6 x7 x8 x9 x10 : Value), (part 3 #[x0, x1, x2, x3, x4, x5, x6, x7, x8, x9, x10] 6).run Tryz.prog w = .ok x6 w := fun x0 x1 x2 x3 x4 x5 x6 x7 x8 x9 x10 => run_part_plain w k3 rfl
  have p4 : ∀ (x0 x1 x2 x3 x4 x5 x6 x7 x8 x9 x10 : Value), (part 3 #[x0, x1, x2, x3, x4, x5, x6, x7, x8, x9, x10] 7).run Tryz.prog w = .ok x7 w := fun x0 x1 x2 x3 x4 x5 x6 x7 x8 x9 x10 => run_part_plain w k3 rfl
  have p5 : ∀ (x0 x1 x2 x3 x4 x5 x6 x7 x8 x9 x10 : Value), (part 3 #[x0, x1, x2, x3, x4, x5, x6, x7, x8, x9, x10] 8).run Tryz.prog w = .ok x8 w := fun x0 x1 x2 x3 x4 x5 x6 x7 x8 x9 x10 => run_part_plain w k3 rfl
  have p6 : ∀ (x0 x1 x2 x3 x4 x5 x6 x7 x8 x9 x10 : Value), (part 3 #[x0, x1, x2, x3, x4, x5, x6, x7, x8, x9, x10] 9).run Tryz.prog w = .ok x9 w := fun x0 x1 x2 x3 x4 x5 x6 x7 x8 x9 x10 => run_part_plain w k3 rfl
  have p7 : ∀ (x0 x1 x2 x3 x4 x5 x6 x7 x8 x9 x10 : Value), (part 4 #[x0, x1, x2, x3, x4, x5, x6, x7, x8, x9, x10] 10).run Tryz.prog w = .ok x10 w := fun x0 x1 x2 x3 x4 x5 x6 x7 x8 x9 x10 => run_part_plain w k4 rfl
  rw [hL]
  simp only [Op.eqFields, if_pos n0, t0, o0, if_pos n1, t1, o1, if_pos n2, t2, o2, if_pos n3, t3, o3, if_pos n4, t4, o4, if_pos n5, t5, o5, if_pos n6, t6, o6, if_pos n7, t7, o7, Sem.run_bind]
  rw [p0, Result.andThen_ok, p0, Result.andThen_ok, hb, Result.andThen_ok]
  by_cases e0 : x.up = y.up
  rotate_left
  · have q : ptEq x y = false := by simp only [ptEq, decide_eq_false_iff_not]; exact fun q => e0 q.1
    rw [q, beq_eq_false_iff_ne.2 e0]
    simp
  rw [beq_iff_eq.2 e0]
  simp only [Bool.not_true, Bool.false_eq_true, if_false, Sem.run_bind]
  rw [p1, Result.andThen_ok, p1, Result.andThen_ok, hb, Result.andThen_ok]
  by_cases e1 : x.has = y.has
  rotate_left
  · have q : ptEq x y = false := by simp only [ptEq, decide_eq_false_iff_not]; exact fun q => e1 q.2.1
    rw [q, beq_eq_false_iff_ne.2 e1]
    simp
  rw [beq_iff_eq.2 e1]
  simp only [Bool.not_true, Bool.false_eq_true, if_false, Sem.run_bind]
  rw [p2, Result.andThen_ok, p2, Result.andThen_ok, eqV9, Result.andThen_ok]
  by_cases e2 : x.r = y.r ∧ x.c = y.c ∧ x.b = y.b ∧ x.p = y.p
  rotate_left
  · have q : ptEq x y = false := by simp only [ptEq, decide_eq_false_iff_not]; exact fun q => e2 ⟨q.2.2.1, q.2.2.2.1, q.2.2.2.2.1, q.2.2.2.2.2.1⟩
    rw [q, decide_eq_false e2]
    simp
  rw [decide_eq_true e2]
  simp only [Bool.not_true, Bool.false_eq_true, if_false, Sem.run_bind]
  rw [p3, Result.andThen_ok, p3, Result.andThen_ok, hi, Result.andThen_ok]
  by_cases e3 : x.h = y.h
  rotate_left
  · have q : ptEq x y = false := by simp only [ptEq, decide_eq_false_iff_not]; exact fun q => e3 q.2.2.2.2.2.2.1
    rw [q, beq_eq_false_iff_ne.2 e3]
    simp
  rw [beq_iff_eq.2 e3]
  simp only [Bool.not_true, Bool.false_eq_true, if_false, Sem.run_bind]
  rw [p4, Result.andThen_ok, p4, Result.andThen_ok, hi, Result.andThen_ok]
  by_cases e4 : x.l = y.l
  rotate_left
  · have q : ptEq x y = false := by simp only [ptEq, decide_eq_false_iff_not]; exact fun q => e4 q.2.2.2.2.2.2.2.1
    rw [q, beq_eq_false_iff_ne.2 e4]
    simp
  rw [beq_iff_eq.2 e4]
  simp only [Bool.not_true, Bool.false_eq_true, if_false, Sem.run_bind]
  rw [p5, Result.andThen_ok, p5, Result.andThen_ok, hi, Result.andThen_ok]
  by_cases e5 : x.ro = y.ro
  rotate_left
  · have q : ptEq x y = false := by simp only [ptEq, decide_eq_false_iff_not]; exact fun q => e5 q.2.2.2.2.2.2.2.2.1
    rw [q, beq_eq_false_iff_ne.2 e5]
    simp
  rw [beq_iff_eq.2 e5]
  simp only [Bool.not_true, Bool.false_eq_true, if_false, Sem.run_bind]
  rw [p6, Result.andThen_ok, p6, Result.andThen_ok, hi, Result.andThen_ok]
  by_cases e6 : x.wa = y.wa
  rotate_left
  · have q : ptEq x y = false := by simp only [ptEq, decide_eq_false_iff_not]; exact fun q => e6 q.2.2.2.2.2.2.2.2.2.1
    rw [q, beq_eq_false_iff_ne.2 e6]
    simp
  rw [beq_iff_eq.2 e6]
  simp only [Bool.not_true, Bool.false_eq_true, if_false, Sem.run_bind]
  rw [p7, Result.andThen_ok, p7, Result.andThen_ok, hb, Result.andThen_ok]
  by_cases e7 : x.op = y.op
  rotate_left
  · have q : ptEq x y = false := by simp only [ptEq, decide_eq_false_iff_not]; exact fun q => e7 q.2.2.2.2.2.2.2.2.2.2
    rw [q, beq_eq_false_iff_ne.2 e7]
    simp
  rw [beq_iff_eq.2 e7]
  simp only [Bool.not_true, Bool.false_eq_true, if_false]
  have q : ptEq x y = true := by simp only [ptEq, decide_eq_true_iff]; exact ⟨e0, e1, e2.1, e2.2.1, e2.2.2.1, e2.2.2.2, e3, e4, e5, e6, e7⟩
  rw [q]
  rfl
def raUp (ro : Int) : Bool := decide (1 ≤ ro ∧ ro ≤ 3)
def raIs (ro : Int) : Bool := decide (0 ≤ ro ∧ ro ≤ 3)
def raOp (ro wa : Int) : Bool := decide ((ro = 1 ∨ ro = 2) ∧ wa = 0)
theorem hopsFitI (h : Int) (w : World) : Calls Tryz.prog 203 #[.int .i64 h] w fun e w' => e = .returned (.bool (decide (0 ≤ h ∧ h ≤ 8))) ∧ w' = w := by
  by_cases h0 : 0 ≤ h
  · by_cases h1 : h ≤ 8
    · rw [decide_eq_true ⟨h0, h1⟩]
      go_enter Tryz.func203, Tryz.ntmps203
      go_wp2
      go_ret
      exact ⟨rfl, rfl⟩
    · have d1 : decide (h ≤ 8) = false := decide_eq_false h1
      rw [decide_eq_false (fun q => h1 q.2)]
      go_enter Tryz.func203, Tryz.ntmps203
      go_wp2
      go_ret
      exact ⟨rfl, rfl⟩
  · have d0 : decide (0 ≤ h) = false := decide_eq_false h0
    rw [decide_eq_false (fun q => h0 q.1)]
    go_enter Tryz.func203, Tryz.ntmps203
    go_wp2
    go_ret
    exact ⟨rfl, rfl⟩
end Go.Proofs.YthgcbihhdbpbdaaGreatDoor
namespace Go.Proofs.YthgcbihhdbpbdaaGreatDoor
open Go.ChangeShapes Go.WideShapes Go.ChangeAt Go.RowKit
open Go.ChangeMaps (open_string shut_string)
set_option linter.unusedVariables false
set_option maxRecDepth 100000

theorem Tryz.info5' : (Tryz.prog.info? 5).map (fun i => (i.zero, i.size, i.bytes)) = some (some (.int .u8 0), 1, 1) := by kernel_rfl
/-- What a loop that fills the block B has done behind k rounds. -/
def Filled (B len : Nat) (f : Nat → Int) (k : Nat) (w wr : World) : Prop :=
  Below B w wr ∧ B < wr.heap.size ∧ (∀ j, j < len → ∃ u, wr.cell? ⟨B, j, none⟩ = some u) ∧ (∀ j, j < len → wr.frozen? ⟨B, j, none⟩ = false) ∧ ∀ j, j < k → wr.cell? ⟨B, j, none⟩ = some (.int .u8 (f j))
theorem Filled.step {B len : Nat} {f : Nat → Int} {k : Nat} {w wr : World} (h : Filled B len f k w wr) (hk : k < len) : Filled B len f (k + 1) w (wr.setCell ⟨B, k, none⟩ (.int .u8 (f k))) := by
  obtain ⟨h1, h2, h3, h4, h5⟩ := h
  refine ⟨h1.setCell (Nat.le_refl _) _, by simpa using h2, ?_, ?_, ?_⟩
  · intro j hj
    exact cell?_setCell_some (h3 j hj).choose_spec
  · intro j hj
    simpa using h4 j hj
  · intro j hj
    by_cases e : j = k
    · subst e
      exact cell_set_same (h3 j hk)
    · rw [cell_set_ne e]
      exact h5 j (by omega)
theorem filled_made {w w1 : World} {len : Nat} {f : Nat → Int} {xs : List Value} (hown : w1.ownsRow w.heap.size 5 1 (.slice (some ⟨w.heap.size, 0, none⟩) len len) len xs) (hgrow : w.grownBy w1 none) : Filled w.heap.size len f 0 w w1 := by
  refine ⟨(Below.refl _ _).grown hgrow (Nat.le_refl _) (by simp), ?_, ?_, ?_, fun j hj => by omega⟩
  · rcases hown.2 with ⟨h, _⟩ | ⟨g, cap, cur, h, _, hg, _⟩
    · simp at h
    · simp only [Value.slice.injEq, Option.some.injEq, Addr.mk.injEq, and_true, true_and] at h
      obtain ⟨rfl, _⟩ := h
      exact (Array.getElem?_eq_some_iff.1 hg).1
  · intro j hj
    have hx := hown.1
    rw [hown.cellAt j (by omega)]
    exact ⟨xs[j]'(by omega), List.getElem?_eq_getElem (by omega)⟩
  · intro j hj
    exact hown.frozenAt j

/-- What markByteS has done behind k rounds, at a row at (b, off). -/
def Marked (b off len : Nat) (m : Int) (k : Nat) (w wr : World) : Prop :=
  w.grownBy wr (some b) ∧ (∀ j, j < len → (∃ u, wr.cell? ⟨b, off + j, none⟩ = some u) ∧ wr.frozen? ⟨b, off + j, none⟩ = false) ∧ ∀ j, j < k → wr.cell? ⟨b, off + j, none⟩ = some (.int .u8 ((m + j) % 256))
theorem Marked.step {b off len : Nat} {m : Int} {k : Nat} {w wr : World} (h : Marked b off len m k w wr) (hk : k < len) : Marked b off len m (k + 1) w (wr.setCell ⟨b, off + k, none⟩ (.int .u8 ((m + k) % 256))) := by
  obtain ⟨h1, h2, h3⟩ := h
  refine ⟨⟨h1.os, h1.tape, h1.output, by simpa using h1.size, fun j hj hne => ?_⟩, fun j hj => ⟨?_, ?_⟩, fun j hj => ?_⟩
  · rw [Below.heap_setCell _ _ _ _ (fun e => hne (by rw [e]))]
    exact h1.block j hj hne
  · exact cell?_setCell_some (h2 j hj).1.choose_spec
  · simpa using (h2 j hj).2
  · by_cases e : j = k
    · subst e
      exact cell_set_same (h2 j hk).1
    · rw [cell_set_ne (by omega)]
      exact h3 j (by omega)

theorem mark_below {w w' : World} {ad : Option Addr} {len B : Nat} {n : Nat} (h : w' = w.drewN n ∨ ∃ a, ad = some a ∧ 0 < len ∧ (w.drewN n).grownBy w' (some a.block)) (hB : ∀ a, ad = some a → B ≤ a.block) (hs : B ≤ w.heap.size) : Below B w w' := by
  rcases h with rfl | ⟨a, e, _, hg⟩
  · exact below_drewN (Below.refl _ _) n
  · refine (below_drewN (Below.refl _ _) n).trans ⟨hg.os, hg.tape, hg.output, hg.size, fun k hk => ?_⟩
    exact hg.block k (Nat.lt_of_lt_of_le hk hs) (by have := hB a e; simp; omega)

end Go.Proofs.YthgcbihhdbpbdaaGreatDoor
namespace Go.Proofs.YthgcbihhdbpbdaaGreatDoor
open Go.ChangeShapes Go.WideShapes Go.ChangeAt Go.RowKit
open Go.ChangeMaps (open_string shut_string)
set_option linter.unusedVariables false
set_option maxRecDepth 100000

/-- What is known of a code that comes in: it reads as bytes. -/
structure CodeIn (w : World) (ad : Option Addr) (len : Nat) (f : Nat → Int) : Prop where
  lm : len ≤ maxLen
  view : View w ad len f
  lt : ∀ a, ad = some a → 0 < len → a.block < w.heap.size
  bytes : ∀ i, 0 ≤ f i ∧ f i ≤ 255
theorem codeIn_open {H : Type} {enc : TypeId × Value → H} {w : World} {r : Reach} {b0 : Nat} {v : Value} {d : DataW H} {p : List MemPlace} (hv : Value.okWide Tryz.prog w r b0 22 v) (h : DataW.Trod enc Tryz.prog w 0 (fun _ => true) true 22 v d p) :
    ∃ ad len cap f, v = .slice ad len cap ∧ CodeIn w ad len f := by
  obtain ⟨n, hn⟩ := h
  obtain ⟨a0, len0, cap0, rfl⟩ := okWide_slice (P := Tryz.prog) (t := 22) (e := 5) Tryz.underlying22 hv
  have hcell0 : ∀ x, (Value.slice a0 len0 cap0).cells.toList = [x] → Value.slice a0 len0 cap0 = x := fun x h => by simpa [Value.cells] using h
  rcases open_ints Tryz.underlying22 Tryz.underlying5 (by kernel_rfl) hn with ⟨hcs, _⟩ | ⟨x, l, cp, zs, hcs, _, hl, hm, hz, _, hcell, hwz⟩
  · exact ⟨none, 0, 0, fun _ => 0, hcell0 _ hcs, by unfold maxLen; omega, fun h => absurd h (by omega), fun a h => by simp at h, fun i => by simp⟩
  · simp at hz
    refine ⟨some x, l, cp, fun i => zs.getD i 0, hcell0 _ hcs, by omega, fun hp => ?_, fun a h hp => ?_, fun i => ?_⟩
    · obtain ⟨b, off, rfl, hc⟩ := ints_at hcell (by omega)
      exact ⟨b, off, rfl, fun i hi => hc i (by omega)⟩
    · obtain rfl : x = a := by simpa using h
      have hc := hcell 0 (by omega)
      simpa [Addr.add] using World.block_lt_of_cell? w _ hc
    · by_cases hi : i < zs.length
      · have := bounds_u8 (hwz (zs.getD i 0) (by simp [List.getD, hi]))
        exact this
      · simp [List.getD, List.getElem?_eq_none (by omega : zs.length ≤ i)]
theorem bigYes (ad : Option Addr) (len cap : Nat) (w : World) (h : (1048576 : Int) < (len : Int)) : Calls Tryz.prog 5 #[.slice ad len cap] w fun e w' => e = .returned (.bool true) ∧ w' = w := by
  go_enter Tryz.func5, Tryz.ntmps5
  go_wp2
  go_ret
  exact ⟨rfl, rfl⟩
theorem bigNo (ad : Option Addr) (len cap : Nat) (w : World) (h : len ≤ 1048576) : Calls Tryz.prog 5 #[.slice ad len cap] w fun e w' => e = .returned (.bool false) ∧ w' = w := by
  have h' : decide ((1048576 : Int) < (len : Int)) = false := decide_eq_false (by omega)
  go_enter Tryz.func5, Tryz.ntmps5
  go_wp2
  go_ret
  exact ⟨rfl, rfl⟩

end Go.Proofs.YthgcbihhdbpbdaaGreatDoor
