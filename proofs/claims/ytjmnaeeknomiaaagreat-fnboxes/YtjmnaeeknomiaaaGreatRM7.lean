import Derived.Test.YtjmnaeeknomiaaaGreatRM6
import Derived.Test.YtjmnaeeknomiaaaGreatRKWBr4
namespace Go.Proofs.YtjmnaeeknomiaaaGreat
open Go.ChangeShapes Go.WideShapes Go.ChangeAt Go.RowKit
open Go.ChangeMaps (open_string shut_string)
set_option linter.unusedVariables false
set_option maxRecDepth 100000
set_option maxHeartbeats 32000000
set_option linter.unusedSimpArgs false
open Go.Proofs.Tryz
attribute [local go_sem] ji ja
structure Mi where
 up : Bool
 li : Int
 ep : Int
 lg : List Ik
 sd : Int
 ac : Int
 al : Int
abbrev mc (m : Mi) (a : Option Addr) (c : Nat) : Array Value := #[.bool m.up, ji m.li, ji m.ep, .slice a m.lg.length c, ji m.sd, ji m.ac, ji m.al]
attribute [local go_sem] mc
def BR (v : Int) : Bool := decide (0 ≤ v ∧ v ≤ 100000)
def Cn (X : List Ik) : Bool := X.all Ay && decide (X.length ≤ 60)
def Au (m : Mi) : Bool :=
 BR m.li && (BR m.ep && (BR m.al && (Cn m.lg && (decide (0 ≤ m.sd ∧ m.sd ≤ (m.lg.length : Int)) && (decide (0 ≤ m.ac ∧ m.ac ≤ (m.lg.length : Int)) && (m.up || (decide (m.ep = 0) && (decide (m.lg.length = 0) && decide (m.al = 0)))))))))
def CV (m : Mi) (x : Ik) : Mi := ⟨m.up, m.li, m.ep, m.lg ++ [x], m.sd, m.ac, m.al⟩
def DB (m : Mi) (x : Ik) : Bool := m.up && Au (CV m x)
def AM (m : Mi) (x : Ik) : Mi := if DB m x then CV m x else m
theorem HF {m : Mi} {x : Ik} (h : DB m x = false) : AM m x = m := by unfold AM; rw [h]; rfl
def DY (m : Mi) (p : Int) : Bool :=
 m.up && (decide (0 < m.ep) && (decide (m.sd < (m.lg.length : Int)) && (decide (p = 0) || (decide (m.al = p) && decide (m.sd < m.ac)))))
theorem Id {m : Mi} {p : Int} (h : DY m p = true) : m.sd < (m.lg.length : Int) ∧ (p ≠ 0 → m.sd < m.ac) := by
 unfold DY at h;simp only [Bool.and_eq_true, Bool.or_eq_true, decide_eq_true_eq] at h;refine ⟨h.2.2.1, fun hp => ?_⟩;rcases h.2.2.2 with e | e
 ·
  exact absurd e hp
 exact e.2
structure Ac (w : World) (q : Nat) (m : Mi) (v : Value) : Prop where
 c0 : w.cell? (ja q 0) = some (.bool m.up)
 c1 : w.cell? (ja q 1) = some (ji m.li)
 c2 : w.cell? (ja q 2) = some (ji m.ep)
 c3 : w.cell? (ja q 3) = some (v)
 c4 : w.cell? (ja q 4) = some (ji m.sd)
 c5 : w.cell? (ja q 5) = some (ji m.ac)
 c6 : w.cell? (ja q 6) = some (ji m.al)
theorem Ac.all {w : World} {q : Nat} {m : Mi} {v : Value} (h : Ac w q m v) : w.cell? (ja q 0) = some (.bool m.up) ∧ w.cell? (ja q 1) = some (ji m.li) ∧ w.cell? (ja q 2) = some (ji m.ep) ∧ w.cell? (ja q 3) = some (v) ∧ w.cell? (ja q 4) = some (ji m.sd) ∧ w.cell? (ja q 5) = some (ji m.ac) ∧ w.cell? (ja q 6) = some (ji m.al) := ⟨h.c0, h.c1, h.c2, h.c3, h.c4, h.c5, h.c6⟩
theorem Ac.keep {w w' : World} {q : Nat} {m : Mi} {v : Value} (h : Ac w q m v) (k : w'.heap[q]? = w.heap[q]?) : Ac w' q m v :=
 ⟨(World.cell?_of_block (a := (ja q 0)) k).trans h.c0, (World.cell?_of_block (a := (ja q 1)) k).trans h.c1, (World.cell?_of_block (a := (ja q 2)) k).trans h.c2, (World.cell?_of_block (a := (ja q 3)) k).trans h.c3, (World.cell?_of_block (a := (ja q 4)) k).trans h.c4, (World.cell?_of_block (a := (ja q 5)) k).trans h.c5, (World.cell?_of_block (a := (ja q 6)) k).trans h.c6⟩
theorem Ac.below {w w' : World} {q n : Nat} {m : Mi} {v : Value} (h : Ac w q m v) (k : Below n w w') (hq : q < n) : Ac w' q m v := h.keep (k.block q hq)
theorem Ac.lt {w : World} {q : Nat} {m : Mi} {v : Value} (h : Ac w q m v) : q < w.heap.size := World.block_lt_of_cell? w _ h.c0
theorem Ac.new (w : World) (t : TypeId) (m : Mi) (v : Value) : Ac (w.alloc (Obj.cells #[.bool m.up, ji m.li, ji m.ep, v, ji m.sd, ji m.ac, ji m.al] t)) w.heap.size m v := by
 refine ⟨?_, ?_, ?_, ?_, ?_, ?_, ?_⟩ <;> simp [go_sem]
structure AQ (w : World) (q : Nat) (m : Mi) (v : Value) : Prop where
 c0 : w.cell? (ja q 0) = some (.bool m.up)
 c1 : w.cell? (ja q 1) = some (ji m.li)
 c2 : w.cell? (ja q 2) = some (ji m.ep)
 c3 : w.cell? (ja q 3) = some (v)
 c4 : w.cell? (ja q 4) = some (ji m.sd)
 c5 : w.cell? (ja q 5) = some (ji m.ac)
 c6 : w.cell? (ja q 6) = some (ji m.al)
 fr : ∀ i, w.frozen? (ja q i) = false
theorem AQ.all {w : World} {q : Nat} {m : Mi} {v : Value} (h : AQ w q m v) : w.cell? (ja q 0) = some (.bool m.up) ∧ w.cell? (ja q 1) = some (ji m.li) ∧ w.cell? (ja q 2) = some (ji m.ep) ∧ w.cell? (ja q 3) = some (v) ∧ w.cell? (ja q 4) = some (ji m.sd) ∧ w.cell? (ja q 5) = some (ji m.ac) ∧ w.cell? (ja q 6) = some (ji m.al) := ⟨h.c0, h.c1, h.c2, h.c3, h.c4, h.c5, h.c6⟩
theorem AQ.keep {w w' : World} {q : Nat} {m : Mi} {v : Value} (h : AQ w q m v) (k : w'.heap[q]? = w.heap[q]?) : AQ w' q m v :=
 ⟨(World.cell?_of_block (a := (ja q 0)) k).trans h.c0, (World.cell?_of_block (a := (ja q 1)) k).trans h.c1, (World.cell?_of_block (a := (ja q 2)) k).trans h.c2, (World.cell?_of_block (a := (ja q 3)) k).trans h.c3, (World.cell?_of_block (a := (ja q 4)) k).trans h.c4, (World.cell?_of_block (a := (ja q 5)) k).trans h.c5, (World.cell?_of_block (a := (ja q 6)) k).trans h.c6, fun i => (World.frozen?_of_block (a := (ja q i)) k).trans (h.fr i)⟩
theorem AQ.below {w w' : World} {q n : Nat} {m : Mi} {v : Value} (h : AQ w q m v) (k : Below n w w') (hq : q < n) : AQ w' q m v := h.keep (k.block q hq)
theorem AQ.lt {w : World} {q : Nat} {m : Mi} {v : Value} (h : AQ w q m v) : q < w.heap.size := World.block_lt_of_cell? w _ h.c0
theorem AQ.new (w : World) (t : TypeId) (m : Mi) (v : Value) : AQ (w.alloc (Obj.cells #[.bool m.up, ji m.li, ji m.ep, v, ji m.sd, ji m.ac, ji m.al] t)) w.heap.size m v := by
 refine ⟨?_, ?_, ?_, ?_, ?_, ?_, ?_, ?_⟩ <;> simp [go_sem]
structure CH (w : World) (q : Nat) (m : Mi) (v : Value) : Prop where
 c0 : w.cell? (ja q 0) = some (v)
 c1 : w.cell? (ja q 1) = some (.bool m.up)
 c2 : w.cell? (ja q 2) = some (ji m.li)
 c3 : w.cell? (ja q 3) = some (ji m.ep)
 c4 : w.cell? (ja q 4) = some (ji m.sd)
 c5 : w.cell? (ja q 5) = some (ji m.ac)
 c6 : w.cell? (ja q 6) = some (ji m.al)
 fr : ∀ i, w.frozen? (ja q i) = false
theorem CH.keep {w w' : World} {q : Nat} {m : Mi} {v : Value} (h : CH w q m v) (k : w'.heap[q]? = w.heap[q]?) : CH w' q m v :=
 ⟨(World.cell?_of_block (a := (ja q 0)) k).trans h.c0, (World.cell?_of_block (a := (ja q 1)) k).trans h.c1, (World.cell?_of_block (a := (ja q 2)) k).trans h.c2, (World.cell?_of_block (a := (ja q 3)) k).trans h.c3, (World.cell?_of_block (a := (ja q 4)) k).trans h.c4, (World.cell?_of_block (a := (ja q 5)) k).trans h.c5, (World.cell?_of_block (a := (ja q 6)) k).trans h.c6, fun i => (World.frozen?_of_block (a := (ja q i)) k).trans (h.fr i)⟩
theorem CH.below {w w' : World} {q n : Nat} {m : Mi} {v : Value} (h : CH w q m v) (k : Below n w w') (hq : q < n) : CH w' q m v := h.keep (k.block q hq)
theorem CH.lt {w : World} {q : Nat} {m : Mi} {v : Value} (h : CH w q m v) : q < w.heap.size := World.block_lt_of_cell? w _ h.c0
theorem CH.new (w : World) (t : TypeId) (m : Mi) (v : Value) : CH (w.alloc (Obj.cells #[v, .bool m.up, ji m.li, ji m.ep, ji m.sd, ji m.ac, ji m.al] t)) w.heap.size m v := by
 refine ⟨?_, ?_, ?_, ?_, ?_, ?_, ?_, ?_⟩ <;> simp [go_sem]
theorem AQ.at_ {w : World} {q : Nat} {m : Mi} {v : Value} (h : AQ w q m v) : Ac w q m v := ⟨h.c0, h.c1, h.c2, h.c3, h.c4, h.c5, h.c6⟩
theorem AQ.log {w : World} {q : Nat} {m : Mi} {v : Value} (h : AQ w q m v) (v' : Value) : AQ (w.setCell (ja q 3) v') q m v' :=
 ⟨(AA (by decide)).trans h.c0, (AA (by decide)).trans h.c1, (AA (by decide)).trans h.c2, Aj h.c3, (AA (by decide)).trans h.c4, (AA (by decide)).trans h.c5, (AA (by decide)).trans h.c6, fun i => by rw [World.frozen?_setCell]; exact h.fr i⟩
theorem CH.log {w : World} {q : Nat} {m : Mi} {v : Value} (h : CH w q m v) (v' : Value) : CH (w.setCell (ja q 0) v') q m v' :=
 ⟨Aj h.c0, (AA (by decide)).trans h.c1, (AA (by decide)).trans h.c2, (AA (by decide)).trans h.c3, (AA (by decide)).trans h.c4, (AA (by decide)).trans h.c5, (AA (by decide)).trans h.c6, fun i => by rw [World.frozen?_setCell]; exact h.fr i⟩
theorem AQ.lg {w : World} {q : Nat} {m : Mi} {v : Value} (L : List Ik) (h : AQ w q m v) : AQ w q { m with lg := L } v := ⟨h.c0, h.c1, h.c2, h.c3, h.c4, h.c5, h.c6, h.fr⟩
def Az (x : Bool) : List Value := [.bool x]
theorem Bj (x : Bool) : (Az x).length = 1 := rfl
theorem Fw (L : List Bool) : ∀ u ∈ Aa Az L, u.oneCell' = true := by
 induction L with
 | nil => intro u h; cases h
 | cons x L ih =>
  intro u h;simp only [Aa, Az, List.mem_append, List.mem_cons, List.not_mem_nil, or_false] at h;rcases h with rfl | h
  ·
   rfl
  exact ih u h
theorem Fg : (prog.info? 4).map (fun i => (i.zero, i.size, i.bytes)) = some (some (.bool false), 1, 1) := by kernel_rfl
theorem AH.oneB (w : World) (t : TypeId) (x : Bool) : AH Az (w.alloc (Obj.cells #[.bool x] t)) (some (ja w.heap.size 0)) [x] := by
 intro _;refine ⟨w.heap.size, 0, rfl, fun j v hv => ?_⟩;match j, hv with
 | 0, hv => cases hv; simp [go_sem]
 | j + 1, hv => simp [Aa, Az] at hv
def BH (L : List Pt) : List Bool := L.map Pt.op
theorem Eb (L : List Pt) : (BH L).length = L.length := List.length_map ..
theorem IQ (L : List Pt) {k : Nat} (hk : k < L.length) : (BH L).getD k false = (L.getD k Pt.nil).op := by
 unfold BH; simp [List.getD, hk]
theorem H7 (L : List Pt) {k : Nat} (hk : k < L.length) : BH (L.take (k + 1)) = BH (L.take k) ++ [(L.getD k Pt.nil).op] := by
 unfold BH;rw [List.take_add_one, List.map_append];have e : L[k]?.toList = [L.getD k Pt.nil] := by simp [List.getD, hk]
 rw [e]; rfl
def Ik.nil : Ik := ⟨0, 0, 0, 0, 0, 0, 0, false⟩
def AO (x : Ik) : List Value := [ji x.k, ji x.q, ji x.r, ji x.c, ji x.b, ji x.p, ji x.h, .bool x.up]
theorem AT (x : Ik) : (AO x).length = 8 := rfl
theorem ER (L : List Ik) : ∀ u ∈ Aa AO L, u.oneCell' = true := by
 induction L with
 | nil => intro u h; cases h
 | cons x L ih =>
  intro u h;simp only [Aa, AO, List.mem_append, List.mem_cons, List.not_mem_nil, or_false] at h;rcases h with (rfl | rfl | rfl | rfl | rfl | rfl | rfl | rfl) | h
  ·
   rfl
  ·
   rfl
  ·
   rfl
  ·
   rfl
  ·
   rfl
  ·
   rfl
  ·
   rfl
  ·
   rfl
  exact ih u h
structure Bk (w : World) (b o : Nat) (x : Ik) : Prop where
 c0 : w.cell? (ja b o) = some (ji x.k)
 c1 : w.cell? ⟨b, o + 1, none⟩ = some (ji x.q)
 c2 : w.cell? ⟨b, o + 2, none⟩ = some (ji x.r)
 c3 : w.cell? ⟨b, o + 3, none⟩ = some (ji x.c)
 c4 : w.cell? ⟨b, o + 4, none⟩ = some (ji x.b)
 c5 : w.cell? ⟨b, o + 5, none⟩ = some (ji x.p)
 c6 : w.cell? ⟨b, o + 6, none⟩ = some (ji x.h)
 c7 : w.cell? ⟨b, o + 7, none⟩ = some (.bool x.up)
theorem Bk.all {w : World} {b o : Nat} {x : Ik} (h : Bk w b o x) : w.cell? (ja b o) = some (ji x.k) ∧ w.cell? ⟨b, o + 1, none⟩ = some (ji x.q) ∧ w.cell? ⟨b, o + 2, none⟩ = some (ji x.r) ∧ w.cell? ⟨b, o + 3, none⟩ = some (ji x.c) ∧ w.cell? ⟨b, o + 4, none⟩ = some (ji x.b) ∧ w.cell? ⟨b, o + 5, none⟩ = some (ji x.p) ∧ w.cell? ⟨b, o + 6, none⟩ = some (ji x.h) ∧ w.cell? ⟨b, o + 7, none⟩ = some (.bool x.up) := ⟨h.c0, h.c1, h.c2, h.c3, h.c4, h.c5, h.c6, h.c7⟩
theorem EA {w : World} {b o : Nat} {x : Ik} (h : ∀ j v, (AO x)[j]? = some v → w.cell? ⟨b, o + j, none⟩ = some v) : Bk w b o x := ⟨h 0 _ rfl, h 1 _ rfl, h 2 _ rfl, h 3 _ rfl, h 4 _ rfl, h 5 _ rfl, h 6 _ rfl, h 7 _ rfl⟩
theorem Bk.below {w w' : World} {q o n : Nat} {x : Ik} (h : Bk w q o x) (k : Below n w w') (hq : q < n) : Bk w' q o x :=
 ⟨(World.cell?_of_block (a := (ja q o)) (k.block q hq)).trans h.c0, (World.cell?_of_block (a := ⟨q, o + 1, none⟩) (k.block q hq)).trans h.c1, (World.cell?_of_block (a := ⟨q, o + 2, none⟩) (k.block q hq)).trans h.c2, (World.cell?_of_block (a := ⟨q, o + 3, none⟩) (k.block q hq)).trans h.c3, (World.cell?_of_block (a := ⟨q, o + 4, none⟩) (k.block q hq)).trans h.c4, (World.cell?_of_block (a := ⟨q, o + 5, none⟩) (k.block q hq)).trans h.c5, (World.cell?_of_block (a := ⟨q, o + 6, none⟩) (k.block q hq)).trans h.c6, (World.cell?_of_block (a := ⟨q, o + 7, none⟩) (k.block q hq)).trans h.c7⟩
end Go.Proofs.YtjmnaeeknomiaaaGreat
namespace Go.Proofs.YtjmnaeeknomiaaaGreat
open Go.ChangeShapes Go.WideShapes Go.ChangeAt Go.RowKit
open Go.ChangeMaps (open_string shut_string)
set_option linter.unusedVariables false
set_option maxRecDepth 100000
set_option maxHeartbeats 32000000
set_option linter.unusedSimpArgs false
open Go.Proofs.Tryz
structure Rg where
 ep : Int
 ow : Int
 pa : Int
def BV (r : Rg) : Bool := decide (1 ≤ r.ep ∧ r.ep ≤ 100000) && (decide (0 ≤ r.ow ∧ r.ow ≤ 1) && BR r.pa)
def Cq (r : Rg) (s : Int) (m : Mi) : Bool := BV r && (Au m && (m.up && (decide (s = r.ow) && decide (m.ep = r.ep))))
def C7 (r : Rg) (s : Int) (m : Mi) : Bool :=
 BV r && (Au m && (m.up && (decide (0 ≤ s ∧ s ≤ 1) && (decide (s ≠ r.ow) && (decide (0 < m.li) && decide (m.li = r.pa))))))
def CF (r : Rg) (s : Int) : Rg := ⟨r.ep + 1, s, 0⟩
def BP (r : Rg) (m : Mi) : Mi := ⟨m.up, m.li, r.ep + 1, m.lg, m.sd, 0, 0⟩
def CM (r : Rg) (s : Int) (m : Mi) : Bool := C7 r s m && (BV (CF r s) && Au (BP r m))
def DA (r : Rg) (s : Int) (m : Mi) (p : Int) : Bool := Cq r s m && (decide (p = 0) || (decide (p = m.al) && decide (m.ac = (m.lg.length : Int))))
def DG (r : Rg) (s : Int) (m : Mi) (p : Int) : Rg := if DA r s m p then ⟨r.ep, r.ow, p⟩ else r
theorem E9 {m : Mi} : Au m = true ↔ BR m.li = true ∧ BR m.ep = true ∧ BR m.al = true ∧ Cn m.lg = true ∧ (0 ≤ m.sd ∧ m.sd ≤ (m.lg.length : Int)) ∧ (0 ≤ m.ac ∧ m.ac ≤ (m.lg.length : Int)) ∧ (m.up = true ∨ m.ep = 0 ∧ m.lg.length = 0 ∧ m.al = 0) := by
 unfold Au;simp only [Bool.and_eq_true, Bool.or_eq_true, decide_eq_true_eq]
theorem I1 {r : Rg} : BV r = true ↔ (1 ≤ r.ep ∧ r.ep ≤ 100000) ∧ (0 ≤ r.ow ∧ r.ow ≤ 1) ∧ BR r.pa = true := by
 unfold BV;simp only [Bool.and_eq_true, decide_eq_true_eq]
theorem Fy {r : Rg} {s : Int} {m : Mi} {p : Int} (h : DA r s m p = false) : DG r s m p = r := by unfold DG; rw [h]; rfl
attribute [local go_sem] ji ja
def Aq (id n : Int) : Bool := decide (1 ≤ id ∧ id ≤ 9) && decide (1 ≤ n ∧ n ≤ 4)
theorem HQ {id : Int} {k : Nat} : Bl id (List.replicate k Pt.nil) = Aq id k := by
 unfold Bl Aq;have e : (List.replicate k Pt.nil).all Ax = true := by
  rw [List.all_eq_true]; intro x hx; rw [List.eq_of_mem_replicate hx]; exact HM
 rw [e, List.length_replicate, Bool.and_true];congr 1
 exact decide_eq_decide.2 (by omega)
def BJ (id n : Int) : Int := if Aq id n then id else 0
def AX (id n : Int) : List Pt := if Aq id n then List.replicate n.toNat Pt.nil else []
theorem Ih {n : Nat} (h : n ≤ 4) : (madeCells (Value.cells (.agg #[.bool false, .bool false, ji 0, ji 0, ji 0, ji 0, ji 0, ji 0, ji 0, ji 0, .bool false])) (n * 11)).toList = Aa AL (List.replicate n Pt.nil) := by
 rcases (by omega : n = 0 ∨ n = 1 ∨ n = 2 ∨ n = 3 ∨ n = 4) with rfl | rfl | rfl | rfl | rfl
 rotate_left;rotate_left;rotate_left;rotate_left;rotate_left;all_goals
  simp only [madeCells, Array.toList_map, Array.toList_range]; rfl
theorem AH.one (w : World) (t : TypeId) (x : Pt) : AH AL (w.alloc (Obj.cells #[.bool x.up, .bool x.has, ji x.r, ji x.c, ji x.b, ji x.p, ji x.h, ji x.l, ji x.ro, ji x.wa, .bool x.op] t)) (some (ja w.heap.size 0)) [x] := by
 intro _;refine ⟨w.heap.size, 0, rfl, fun j v hv => ?_⟩;have hj : j < 11 := by
  have := (List.getElem?_eq_some_iff.1 hv).1;simpa [Aa, AL] using this
 rcases (by omega : j = 0 ∨ j = 1 ∨ j = 2 ∨ j = 3 ∨ j = 4 ∨ j = 5 ∨ j = 6 ∨ j = 7 ∨ j = 8 ∨ j = 9 ∨ j = 10) with rfl | rfl | rfl | rfl | rfl | rfl | rfl | rfl | rfl | rfl | rfl
 rotate_left;rotate_left;rotate_left;rotate_left;rotate_left;rotate_left;rotate_left;rotate_left;rotate_left;rotate_left;rotate_left;all_goals
  cases hv; simp [go_sem]
theorem Fl (a b : Int) (w : World) : Calls prog 43 #[ji a, ji b] w fun e w' => e = .returned (ji (if a < b then a else b)) ∧ w' = w := by
 by_cases h : a < b
 ·
  rw [if_pos h];have d : decide (a < b) = true := decide_eq_true h;clear h;go_enter func43, ntmps43
  go_wp2
  go_ret
  exact ⟨rfl, rfl⟩
 rw [if_neg h];have d : decide (a < b) = false := decide_eq_false h;clear h;go_enter func43, ntmps43
 go_wp2
 go_ret
 exact ⟨rfl, rfl⟩
theorem FH (id n : Int) (w : World) :
  Calls prog 13 #[ji id, ji n] w fun e w' => ∃ ad' cap', e = .returned (.tuple #[.agg #[ji (BJ id n), .slice ad' (AX id n).length cap'], .bool (Aq id n)]) ∧ AB AL 11 70 w.heap.size w' (.slice ad' (AX id n).length cap') (AX id n) ∧ Bw w w' := by
 obtain ⟨i0, hi, hz0, hz1, hz2⟩ := info_parts GJ;obtain ⟨y, hy, B0⟩ := AI w (Obj.cells #[ji 0, .slice none 0 0] 42);have R0 : AU y w.heap.size 0 (.slice none 0 0) := by rw [hy]; exact AU.new w _ _ _
 have S0 := R0.lt;obtain ⟨IV, hI⟩ := AC (BJ id n);obtain ⟨LV, hM⟩ := AC (AX id n);obtain ⟨NV, hN⟩ := AC (Aq id n);rw [← hI, ← hM, ← hN];by_cases hn0 : 0 ≤ n ∧ n ≤ 4
 rotate_left
 ·
  have e : Aq id n = false := by unfold Aq; rw [decide_eq_false (show ¬ (1 ≤ n ∧ n ≤ 4) by omega), Bool.and_false]
  replace hI : Hid (IV = 0) := by unfold Hid; rw [hI]; unfold BJ; rw [e]; rfl
  replace hM : Hid (LV = []) := by unfold Hid; rw [hM]; unfold AX; rw [e]; rfl
  replace hN : Hid (NV = false) := by unfold Hid; rw [hN, e]
  by_cases h1 : n < 0
  focus
   have d1 : decide (n < 0) = true := decide_eq_true h1
  rotate_left;focus
   have d1 : decide (n < 0) = false := decide_eq_false h1;have d2 : decide (4 < n) = true := decide_eq_true (by omega)
  rotate_left;all_goals
   clear h1 hn0 e;go_enter func13, ntmps13
   go_upto_region 2 with fail
   rw [← hy];clear hy;have RP := R0.put 0 (.slice none 0 0);obtain ⟨⟨r0, r1⟩, rf⟩ := R0;have BZ := (B0.setCell (p := (ja w.heap.size 0)) (Nat.le_refl w.heap.size) (ji 0)).setCell (p := (ja w.heap.size 1)) (Nat.le_refl w.heap.size) (.slice none 0 0);obtain ⟨⟨p0, p1⟩, _⟩ := RP;go_wp2
   refine bodyPost_ret (v := .tuple #[.agg #[ji 0, .slice none 0 0], .bool false]) (by simp [results, results13, go_sem, *]) rfl ⟨none, 0, by rw [hI.out, hM.out, hN.out]; rfl, by rw [hM.out]; exact AB.nil, BZ⟩
 obtain ⟨k, rfl⟩ : ∃ k : Nat, n = (k : Int) := ⟨n.toNat, by omega⟩;have hk : k ≤ 4 := by omega
 have d1 : decide ((k : Int) < 0) = false := decide_eq_false (by omega);have d2 : decide (4 < (k : Int)) = false := decide_eq_false (by omega);clear hn0;go_enter func13, ntmps13
 go_upto_region 3 with fail
 rw [← hy];clear hy;go_wp2_with (first | (refine wpList_make_full _ rfl _ _ 40 rfl y.heap.size 70 i0 (.agg #[.bool false, .bool false, ji 0, ji 0, ji 0, ji 0, ji 0, ji 0, ji 0, ji 0, .bool false]) 11 underlying40 hi hz0 hz1 .i64 .i64 _ _ k rfl rfl rfl rfl ?c1 ?c2 ?c3 ?_))
 case c1 => rw [hz2]; omega
 case c2 => unfold maxLen; omega
 case c3 => exact Nat.le_refl _
 intro w1 hown hgrow;have O1 : AB AL 11 70 y.heap.size w1 (.slice (some (ja y.heap.size 0)) k k) (List.replicate k Pt.nil) := by
  unfold AB;rw [List.length_replicate, ← Ih hk];exact hown
 have k1 : Bw y w1 := (Below.refl _ _).grown hgrow (Nat.le_refl _) (by simp);clear hown hgrow;have R1 := R0.below k1 S0;have B1 := AE B0 k1;have S1 := R1.lt;have gl := (O1.lt y.heap.size rfl).2;obtain ⟨y2, hy2, kn⟩ := AI w1 (Obj.cells #[ji id, .slice (some (ja y.heap.size 0)) k k] 42);have A2 : As y2 w1.heap.size id (.slice (some (ja y.heap.size 0)) k k) := by rw [hy2]; exact As.new w1 _ _ _
 have R2 := R1.below kn S1;have O2 := O1.later kn;have B2 := AE B1 kn;have S2 := A2.lt;go_upto_region 4 with fail
 rw [← hy2];clear hy2 kn R0 R1 O1 k1 B0 B1;generalize y.heap.size = g at S0 O2 gl A2 ⊢
 generalize w1.heap.size = Q at S1 gl A2 S2 ⊢
 obtain ⟨a0, a1⟩ := A2;have A2 : As y2 Q id (.slice (some (ja g 0)) k k) := ⟨a0, a1⟩;go_wp2_with fail
 go_at_call 42
 clear a0 a1;obtain ⟨Rk, hRk⟩ := AC (List.replicate k Pt.nil);rw [← hRk] at O2;have hRl : Rk.length = k := by rw [hRk, List.length_replicate]
 have hc := Kt id (some (ja g 0)) k Rk y2 (by have := O2.view.2; exact this) (by omega);rw [hRl] at hc;refine hc.mono ?_;rintro e w3 ⟨rfl, k3⟩;have B3 := AE B2 k3;have A3 := A2.below k3 S2;have R3 := R2.below k3 R2.lt;have O3 := O2.later k3;rw [hRk, HQ];clear hc k3 A2 R2 O2 B2;cases he : Aq id (k : Int) with
 | false =>
  replace hI : Hid (IV = 0) := by unfold Hid; rw [hI]; unfold BJ; rw [he]; rfl
  replace hM : Hid (LV = []) := by unfold Hid; rw [hM]; unfold AX; rw [he]; rfl
  replace hN : Hid (NV = false) := by unfold Hid; rw [hN, he]
  clear he hRk hRl;have RP := R3.put 0 (.slice none 0 0);obtain ⟨⟨r0, r1⟩, rf⟩ := R3;have BZ := (B3.setCell (p := (ja w.heap.size 0)) (Nat.le_refl w.heap.size) (ji 0)).setCell (p := (ja w.heap.size 1)) (Nat.le_refl w.heap.size) (.slice none 0 0);obtain ⟨⟨p0, p1⟩, _⟩ := RP;go_wp2
  refine bodyPost_ret (v := .tuple #[.agg #[ji 0, .slice none 0 0], .bool false]) (by simp [results, results13, go_sem, *]) rfl ⟨none, 0, by rw [hI.out, hM.out, hN.out]; rfl, by rw [hM.out]; exact AB.nil, BZ⟩
 | true =>
  replace hI : Hid (IV = id) := by unfold Hid; rw [hI]; unfold BJ; rw [he]; rfl
  replace hM : Hid (LV = Rk) := by unfold Hid; rw [hM, hRk]; unfold AX; rw [he]; rfl
  replace hN : Hid (NV = true) := by unfold Hid; rw [hN, he]
  replace hRl : Hid _ := hRl;clear he hRk;have RP := R3.put id (.slice (some (ja g 0)) k k);obtain ⟨⟨r0, r1⟩, rf⟩ := R3;obtain ⟨a0, a1⟩ := A3;have BZ := (B3.setCell (p := (ja w.heap.size 0)) (Nat.le_refl w.heap.size) (ji id)).setCell (p := (ja w.heap.size 1)) (Nat.le_refl w.heap.size) (.slice (some (ja g 0)) k k);have OZ : AB AL 11 70 w.heap.size ((w3.setCell (ja w.heap.size 0) (ji id)).setCell (ja w.heap.size 1) (.slice (some (ja g 0)) k k)) (.slice (some (ja g 0)) k k) Rk := (O3.base (by omega)).keep fun g' e => by
   obtain rfl : g = g' := by simpa [Value.ownBlock] using e
   rw [AF (by show g ≠ w.heap.size; omega), AF (by show g ≠ w.heap.size; omega)]
  obtain ⟨⟨p0, p1⟩, _⟩ := RP;go_wp2
  refine bodyPost_ret (v := .tuple #[.agg #[ji id, .slice (some (ja g 0)) k k], .bool true]) (by simp [results, results13, go_sem, *]) rfl ⟨some (ja g 0), k, by rw [hI.out, hM.out, hN.out, hRl.out], by rw [hM.out, hRl.out]; exact OZ, BZ⟩
structure Al (w : World) (q : Nat) (r : Rg) : Prop where
 c0 : w.cell? (ja q 0) = some (ji r.ep)
 c1 : w.cell? (ja q 1) = some (ji r.ow)
 c2 : w.cell? (ja q 2) = some (ji r.pa)
theorem Al.all {w : World} {q : Nat} {r : Rg} (h : Al w q r) : w.cell? (ja q 0) = some (ji r.ep) ∧ w.cell? (ja q 1) = some (ji r.ow) ∧ w.cell? (ja q 2) = some (ji r.pa) := ⟨h.c0, h.c1, h.c2⟩
theorem Al.keep {w w' : World} {q : Nat} {r : Rg} (h : Al w q r) (k : w'.heap[q]? = w.heap[q]?) : Al w' q r :=
 ⟨(World.cell?_of_block (a := (ja q 0)) k).trans h.c0, (World.cell?_of_block (a := (ja q 1)) k).trans h.c1, (World.cell?_of_block (a := (ja q 2)) k).trans h.c2⟩
theorem Al.below {w w' : World} {q n : Nat} {r : Rg} (h : Al w q r) (k : Below n w w') (hq : q < n) : Al w' q r := h.keep (k.block q hq)
theorem Al.lt {w : World} {q : Nat} {r : Rg} (h : Al w q r) : q < w.heap.size := World.block_lt_of_cell? w _ h.c0
theorem Al.new (w : World) (t : TypeId) (r : Rg) : Al (w.alloc (Obj.cells #[ji r.ep, ji r.ow, ji r.pa] t)) w.heap.size r := by
 refine ⟨?_, ?_, ?_⟩ <;> simp [go_sem]
structure Bf (w : World) (q : Nat) (r : Rg) : Prop where
 at_ : Al w q r
 fr : ∀ i, w.frozen? (ja q i) = false
theorem Bf.keep {w w' : World} {q : Nat} {r : Rg} (h : Bf w q r) (k : w'.heap[q]? = w.heap[q]?) : Bf w' q r :=
 ⟨h.at_.keep k, fun i => (World.frozen?_of_block (a := (ja q i)) k).trans (h.fr i)⟩
theorem Bf.below {w w' : World} {q n : Nat} {r : Rg} (h : Bf w q r) (k : Below n w w') (hq : q < n) : Bf w' q r := h.keep (k.block q hq)
theorem Bf.lt {w : World} {q : Nat} {r : Rg} (h : Bf w q r) : q < w.heap.size := h.at_.lt
theorem Bf.put {w : World} {q : Nat} {r : Rg} (h : Bf w q r) (r' : Rg) : Bf (((w.setCell (ja q 0) (ji r'.ep)).setCell (ja q 1) (ji r'.ow)).setCell (ja q 2) (ji r'.pa)) q r' := by
 obtain ⟨⟨h0, h1, h2⟩, hf⟩ := h;have h0 : (w.setCell (ja q 0) (ji r'.ep)).cell? (ja q 0) = some (ji r'.ep) := Aj h0;have h1 : (w.setCell (ja q 0) (ji r'.ep)).cell? (ja q 1) = _ := (AA (by decide)).trans h1;have h2 : (w.setCell (ja q 0) (ji r'.ep)).cell? (ja q 2) = _ := (AA (by decide)).trans h2;have h0 : ((w.setCell (ja q 0) (ji r'.ep)).setCell (ja q 1) (ji r'.ow)).cell? (ja q 0) = _ := (AA (by decide)).trans h0;have h1 : ((w.setCell (ja q 0) (ji r'.ep)).setCell (ja q 1) (ji r'.ow)).cell? (ja q 1) = some (ji r'.ow) := Aj h1;have h2 : ((w.setCell (ja q 0) (ji r'.ep)).setCell (ja q 1) (ji r'.ow)).cell? (ja q 2) = _ := (AA (by decide)).trans h2;refine ⟨⟨(AA (by decide)).trans h0, (AA (by decide)).trans h1, Aj h2⟩, fun i => ?_⟩;rw [World.frozen?_setCell, World.frozen?_setCell, World.frozen?_setCell]; exact hf i
theorem Fz (w : World) (q k : Nat) (r' : Rg) (h : k ≠ q) : (((w.setCell (ja q 0) (ji r'.ep)).setCell (ja q 1) (ji r'.ow)).setCell (ja q 2) (ji r'.pa)).heap[k]? = w.heap[k]? := by
 rw [AF h, AF h, AF h]
theorem E2 {a w : World} {q n : Nat} (r' : Rg) (h : Below n a w) (hq : n ≤ q) : Below n a (((w.setCell (ja q 0) (ji r'.ep)).setCell (ja q 1) (ji r'.ow)).setCell (ja q 2) (ji r'.pa)) :=
 ((h.setCell (p := (ja q 0)) hq _).setCell (p := (ja q 1)) hq _).setCell (p := (ja q 2)) hq _
theorem Fi (x : Ik) (w : World) : Calls prog 82 #[.agg #[ji x.k, ji x.q, ji x.r, ji x.c, ji x.b, ji x.p, ji x.h, .bool x.up]] w fun e w' => e = .returned (.bool (Ay x)) ∧ Bw w w' := by
 obtain ⟨k, q, r, c, b, p, h, up⟩ := x;dsimp only
 obtain ⟨R, hR⟩ := AC (Ay ⟨k, q, r, c, b, p, h, up⟩);rw [← hR];by_cases h1 : k = 1
 ·
  subst h1;have hR1 : Hid (R = (decide (0 ≤ q ∧ q ≤ 3) && (Ad r c b p && (decide (0 ≤ h ∧ h ≤ 8) && !up)))) := hR;clear hR;have B0 := Ae (w := w) (Obj.cells #[ji 1, ji q, ji r, ji c, ji b, ji p, ji h, .bool up] 64);obtain ⟨y, hy⟩ := AC (w.alloc (Obj.cells #[ji 1, ji q, ji r, ji c, ji b, ji p, ji h, .bool up] 64));rw [← hy] at B0;have A0 : BD y w.heap.size ⟨1, q, r, c, b, p, h, up⟩ := by rw [hy]; exact BD.new w _ ⟨1, q, r, c, b, p, h, up⟩
  have S0 := A0.lt;go_enter func82, ntmps82
  go_wp2_with fail
  go_at_call 65
  rw [← hy];clear hy;refine (BK q 0 3 y).mono ?_;rintro e y1 ⟨rfl, rfl⟩;obtain ⟨a0, a1, a2, a3, a4, a5, a6, a7⟩ := A0;have A0 : BD y1 w.heap.size ⟨1, q, r, c, b, p, h, up⟩ := ⟨a0, a1, a2, a3, a4, a5, a6, a7⟩;cases hF : decide (0 ≤ q ∧ q ≤ 3) with
  | false =>
   have hN : Hid (R = false) := by unfold Hid; rw [hR1.out, hF]; rfl
   clear hR1 hF;go_wp2
   go_ret
   exact ⟨by rw [hN.out]; rfl, B0⟩
  | true =>
   have hR2 : Hid (R = (Ad r c b p && (decide (0 ≤ h ∧ h ≤ 8) && !up))) := by unfold Hid; rw [hR1.out, hF]; rfl
   clear hR1 hF;go_wp2_with fail
   go_at_call 123
   refine (Gd r c b p y1).mono ?_;rintro e y2 ⟨rfl, k2⟩;have B2 := AE B0 k2;have A2 := A0.below k2 S0;clear a0 a1 a2 a3 a4 a5 a6 a7 A0 k2;replace A2 := A2.all;cases hF : Ad r c b p with
   | false =>
    have hN : Hid (R = false) := by unfold Hid; rw [hR2.out, hF]; rfl
    clear hR2 hF;go_wp2
    go_ret
    exact ⟨by rw [hN.out]; rfl, B2⟩
   | true =>
    have hR3 : Hid (R = (decide (0 ≤ h ∧ h ≤ 8) && !up)) := by unfold Hid; rw [hR2.out, hF]; rfl
    clear hR2 hF;go_wp2_with fail
    go_at_call 65
    refine (BK h 0 8 y2).mono ?_;rintro e y3 ⟨rfl, rfl⟩;cases hF : decide (0 ≤ h ∧ h ≤ 8) with
    | false =>
     have hN : Hid (R = false) := by unfold Hid; rw [hR3.out, hF]; rfl
     clear hR3 hF;go_wp2
     go_ret
     exact ⟨by rw [hN.out]; rfl, B2⟩
    | true =>
     have hN : Hid (R = !up) := by unfold Hid; rw [hR3.out, hF]; rfl
     clear hR3 hF;go_wp2
     go_ret
     exact ⟨by rw [hN.out]; rfl, B2⟩
 have d1 : (k == 1) = false := by simpa using h1
 by_cases h3 : k = 3
 ·
  subst h3;have hR1 : Hid (R = (decide (0 ≤ q ∧ q ≤ 3) && (decide (r = 0 ∧ c = 0 ∧ b = 0 ∧ p = 0) && (h == 0)))) := hR;clear hR h1 d1;have B0 := Ae (w := w) (Obj.cells #[ji 3, ji q, ji r, ji c, ji b, ji p, ji h, .bool up] 64);obtain ⟨y, hy⟩ := AC (w.alloc (Obj.cells #[ji 3, ji q, ji r, ji c, ji b, ji p, ji h, .bool up] 64));rw [← hy] at B0;have A0 : BD y w.heap.size ⟨3, q, r, c, b, p, h, up⟩ := by rw [hy]; exact BD.new w _ ⟨3, q, r, c, b, p, h, up⟩
  have S0 := A0.lt;go_enter func82, ntmps82
  go_wp2_with fail
  go_at_call 65
  rw [← hy];clear hy;refine (BK q 0 3 y).mono ?_;rintro e y1 ⟨rfl, rfl⟩;replace A0 := A0.all;cases hF : decide (0 ≤ q ∧ q ≤ 3) with
  | false =>
   have hN : Hid (R = false) := by unfold Hid; rw [hR1.out, hF]; rfl
   clear hR1 hF;go_wp2
   go_ret
   exact ⟨by rw [hN.out]; rfl, B0⟩
  | true =>
   have hR2 : Hid (R = (decide (r = 0 ∧ c = 0 ∧ b = 0 ∧ p = 0) && (h == 0))) := by unfold Hid; rw [hR1.out, hF]; rfl
   clear hR1 hF;have eV : ∀ w_ : World, (binOp .eql 62 (.agg #[ji r, ji c, ji b, ji p]) (.agg #[ji 0, ji 0, ji 0, ji 0])).run prog w_ = .ok (.bool (decide (r = 0 ∧ c = 0 ∧ b = 0 ∧ p = 0))) w_ := fun w_ => by
    have := Fo r c b p 0 0 0 0 w_;go_simp
   cases hF : decide (r = 0 ∧ c = 0 ∧ b = 0 ∧ p = 0) with
   | false =>
    have hN : Hid (R = false) := by unfold Hid; rw [hR2.out, hF]; rfl
    rw [hF] at eV;clear hR2 hF;go_wp2
    go_ret
    exact ⟨by rw [hN.out]; rfl, B0⟩
   | true =>
    have hN : Hid (R = (h == 0)) := by unfold Hid; rw [hR2.out, hF]; rfl
    rw [hF] at eV;clear hR2 hF;go_wp2
    go_ret
    exact ⟨by rw [hN.out]; rfl, B0⟩
 have d3 : (k == 3) = false := by simpa using h3
 by_cases h2 : k = 2
 ·
  subst h2;have hN : Hid (R = decide (q = 0 ∧ r = 0 ∧ c = 0 ∧ b = 0 ∧ p = 0 ∧ h = 0 ∧ up = false)) := hR;clear hR h1 d1 h3 d3;have eI : ∀ w_ : World, (binOp .eql 64 (.agg #[ji 2, ji q, ji r, ji c, ji b, ji p, ji h, .bool up]) (.agg #[ji 2, ji 0, ji 0, ji 0, ji 0, ji 0, ji 0, .bool false])).run prog w_ = .ok (.bool R) w_ := fun w_ => by
   rw [hN.out];go_simp
   all_goals ((repeat' split) <;> first | (simp_all; done) | grind)
  clear hN;have B0 := Ae (w := w) (Obj.cells #[ji 2, ji q, ji r, ji c, ji b, ji p, ji h, .bool up] 64);obtain ⟨y, hy⟩ := AC (w.alloc (Obj.cells #[ji 2, ji q, ji r, ji c, ji b, ji p, ji h, .bool up] 64));rw [← hy] at B0;have A0 : BD y w.heap.size ⟨2, q, r, c, b, p, h, up⟩ := by rw [hy]; exact BD.new w _ ⟨2, q, r, c, b, p, h, up⟩
  have S0 := A0.lt;go_enter func82, ntmps82
  go_upto_region 7 with fail
  rw [← hy];clear hy;replace A0 := A0.all;go_wp2
  go_ret
  exact ⟨rfl, B0⟩
 have d2 : (k == 2) = false := by simpa using h2
 have hN : Hid (R = false) := by unfold Hid; rw [hR]; unfold Ay; rw [if_neg h1, if_neg h3, if_neg h2]
 clear hR h1 h2 h3;have B0 := Ae (w := w) (Obj.cells #[ji k, ji q, ji r, ji c, ji b, ji p, ji h, .bool up] 64);obtain ⟨y, hy⟩ := AC (w.alloc (Obj.cells #[ji k, ji q, ji r, ji c, ji b, ji p, ji h, .bool up] 64));rw [← hy] at B0;have A0 : BD y w.heap.size ⟨k, q, r, c, b, p, h, up⟩ := by rw [hy]; exact BD.new w _ ⟨k, q, r, c, b, p, h, up⟩
 have S0 := A0.lt;go_enter func82, ntmps82
 go_wp2
 go_ret
 rw [← hy];exact ⟨by rw [hN.out]; rfl, B0⟩
end Go.Proofs.YtjmnaeeknomiaaaGreat
namespace Go.Proofs.YtjmnaeeknomiaaaGreat
open Go.ChangeShapes Go.WideShapes Go.ChangeAt Go.RowKit
open Go.ChangeMaps (open_string shut_string)
set_option linter.unusedVariables false
set_option maxRecDepth 100000
set_option maxHeartbeats 32000000
set_option linter.unusedSimpArgs false
open Go.Proofs.Tryz
attribute [local go_sem] ji ja
theorem Ed : (prog.info? 64).map (fun i => (i.zero, i.size, i.bytes)) = some (some (.agg #[ji 0, ji 0, ji 0, ji 0, ji 0, ji 0, ji 0, .bool false]), 8, 64) := by kernel_rfl
attribute [local go_sem] mc
theorem En (n : Int) (w : World) : Calls prog 92 #[ji n] w fun e w' => e = .returned (.bool (BR n)) ∧ w' = w := by
 obtain ⟨R, hR⟩ := AC (BR n);rw [← hR];replace hR : Hid _ := hR;by_cases h1 : 0 ≤ n
 ·
  have d1 : decide (0 ≤ n) = true := decide_eq_true h1;have hN : Hid (R = decide (n ≤ 100000)) := by unfold Hid; rw [hR.out]; unfold BR; by_cases h2 : n ≤ 100000 <;> simp [h1, h2]
  clear hR;go_enter func92, ntmps92
  go_wp2
  go_ret
  exact ⟨by rw [hN.out]; rfl, rfl⟩
 have d1 : decide (0 ≤ n) = false := decide_eq_false h1;have hN : Hid (R = false) := by unfold Hid; rw [hR.out]; unfold BR; simp [h1]
 clear hR;go_enter func92, ntmps92
 go_wp2
 go_ret
 exact ⟨by rw [hN.out]; rfl, rfl⟩
theorem He (ad : Option Addr) (cap : Nat) (L : List Ik) (w : World) (hv : AH AO w ad L) (hl : L.length ≤ 1048577) :
  Calls prog 102 #[.slice ad L.length cap] w fun e w' => ∃ ad' cap', e = .returned (.slice ad' L.length cap') ∧ AB AO 8 64 w.heap.size w' (.slice ad' L.length cap') L ∧ Bw w w' := by
 obtain ⟨i1, hj, hy0, hy1, hy2⟩ := info_parts Ed;cases ad with
 | none =>
  obtain rfl := hv.none_nil;have hEq : ∀ (y : World) (c : Nat), (binOp .eql 31 (.slice none 0 c) (.slice none 0 0)).run prog y = .ok (.bool true) y := fun y c => Go.Lib.run_eql_slice_nil y 31 64 none 0 c 0 0 underlying31
  simp only [List.length_nil];go_enter func102, ntmps102
  go_wp2
  go_ret
  exact ⟨_, _, rfl, AB.nil, Below.refl _ _⟩
 | some a =>
  have hB := hv.lt AT (by omega);have B0 := Ae (w := w) (Obj.cells #[] 64);have hv1 : AH AO (w.alloc (Obj.cells #[] 64)) (some a) L := hv.below B0 hB;have hEq : ∀ (y : World), (binOp .eql 31 (.slice (some a) L.length cap) (.slice none 0 0)).run prog y = .ok (.bool false) y := fun y => Go.Lib.run_eql_slice_nil y 31 64 (some a) L.length cap 0 0 underlying31
  go_enter func102, ntmps102
  go_wp2_with (first | (at_builtin; refine DT AT ER rfl _ _ 31 rfl w.heap.size 64 i1 (.agg #[ji 0, ji 0, ji 0, ji 0, ji 0, ji 0, ji 0, .bool false]) 64 underlying31 hj hy0 hy1 hy2 rfl (by decide) (by decide) _ ([] : List Ik) rfl (AB.empty w) (some a) cap L rfl (fun e => by cases e) hv1 ?z0 ?z1 ?_) | go_in)
  case z0 => simp; omega
  case z1 => simp
  intro vZ wZ hownZ hgrowZ _;have BZ : Bw w wZ := B0.grown hgrowZ (by simp) (fun j e => ((AB.empty w : AB AO 8 64 _ _ _ _).lt j e).1);replace hownZ : AB AO 8 64 w.heap.size wZ vZ L := hownZ;obtain ⟨adZ, capZ, rfl⟩ := hownZ.open_;clear hgrowZ B0 hv1;go_wp2
  go_ret
  exact ⟨_, _, rfl, hownZ, BZ⟩
theorem KK (ad : Option Addr) (cap : Nat) (L : List Ik) (w : World) (hv : AH AO w ad L) (hl : L.length ≤ 1048577) :
  Calls prog 132 #[.slice ad L.length cap] w fun e w' => ∃ a c, e = .returned (.agg #[.slice a L.length c]) ∧ AB AO 8 64 w.heap.size w' (.slice a L.length c) L ∧ Bw w w' := by
 have hB := hv.lt AT (by omega);obtain ⟨y, hy, B0⟩ := AI w (Obj.cells #[.slice none 0 0] 159);have c0 : y.cell? (ja w.heap.size 0) = some (.slice none 0 0) := by rw [hy]; simp [go_sem]
 have f0 : y.frozen? (ja w.heap.size 0) = false := by rw [hy]; simp [go_sem]
 have S0 := World.block_lt_of_cell? _ _ c0;go_enter func132, ntmps132
 go_wp2_with fail
 go_at_call 102
 rw [← hy];clear hy;refine (He ad cap L y (hv.below B0 hB) hl).mono ?_;rintro e w1 ⟨a1, c1, rfl, O1, k1⟩;have B1 := AE B0 k1;have c0 := (World.cell?_of_block (a := (ja w.heap.size 0)) (k1.block _ S0)).trans c0;have f0 := (World.frozen?_of_block (a := (ja w.heap.size 0)) (k1.block _ S0)).trans f0;have hne : ∀ g, (Value.slice a1 L.length c1).ownBlock = some g → g ≠ w.heap.size := fun g e => by have := (O1.lt g e).1; omega
 have O2 : AB AO 8 64 w.heap.size (w1.setCell (ja w.heap.size 0) (.slice a1 L.length c1)) (.slice a1 L.length c1) L := (O1.base B0.size).keep fun g e => AF (hne g e)
 have B2 := B1.setCell (p := (ja w.heap.size 0)) (Nat.le_refl _) (.slice a1 L.length c1);clear k1 B0 hv hB O1 B1 hne;go_wp2
 refine bodyPost_ret (v := .agg #[.slice a1 L.length c1]) (by simp [results, results132, go_sem, *]) rfl ⟨_, _, rfl, O2, B2⟩
theorem FF (m : Mi) (ad : Option Addr) (cap : Nat) (w : World) (hv : AH AO w ad m.lg) (hl : m.lg.length ≤ 1048577) :
  Calls prog 98 #[.agg #[.bool m.up, ji m.li, ji m.ep, .slice ad m.lg.length cap, ji m.sd, ji m.ac, ji m.al]] w fun e w' => ∃ q a c, e = .returned (.pointer (some (ja q 0))) ∧ CH w' q m (.slice a m.lg.length c) ∧ AB AO 8 64 w.heap.size w' (.slice a m.lg.length c) m.lg ∧ (∀ g, (Value.slice a m.lg.length c).ownBlock = some g → g < q) ∧ w.heap.size < q ∧ Bw w w' := by
 have hB := hv.lt AT (by omega);obtain ⟨y, hy, B0⟩ := AI w (Obj.cells (mc m ad cap) 52);have A : Ac y w.heap.size m (.slice ad m.lg.length cap) := by rw [hy]; exact Ac.new w _ _ _
 have S0 := A.lt;have hv1 := hv.below B0 hB;go_enter func98, ntmps98
 go_upto_region 1 with fail
 rw [← hy];clear hy;refine AV (fun Y => Bw y Y) fun u0 hb0 => ?_
 refine tw 0 3 (.pointer (some (ja w.heap.size 3))) ?_;refine tw 1 4 (.slice ad m.lg.length cap) ?_ (hy := by intro Y hSw; have X := (A.below hSw (by omega)).all; go_simp);refine tw 3 6 (.pointer (some (ja w.heap.size 0))) ?_;refine tw 4 7 (.bool m.up) ?_ (hy := by intro Y hSw; have X := (A.below hSw (by omega)).all; go_simp);refine tw 5 8 (.pointer (some (ja w.heap.size 1))) ?_;refine tw 6 9 (ji m.li) ?_ (hy := by intro Y hSw; have X := (A.below hSw (by omega)).all; go_simp);refine tw 7 10 (.pointer (some (ja w.heap.size 2))) ?_;refine tw 8 11 (ji m.ep) ?_ (hy := by intro Y hSw; have X := (A.below hSw (by omega)).all; go_simp);refine tw 9 12 (.pointer (some (ja w.heap.size 4))) ?_;refine tw 10 13 (ji m.sd) ?_ (hy := by intro Y hSw; have X := (A.below hSw (by omega)).all; go_simp);refine tw 11 14 (.pointer (some (ja w.heap.size 5))) ?_;refine tw 12 15 (ji m.ac) ?_ (hy := by intro Y hSw; have X := (A.below hSw (by omega)).all; go_simp);refine tw 13 16 (.pointer (some (ja w.heap.size 6))) ?_;refine tw 14 17 (ji m.al) ?_ (hy := by intro Y hSw; have X := (A.below hSw (by omega)).all; go_simp);refine tw 15 18 (.agg #[.bool m.up, ji m.li, ji m.ep, ji m.sd, ji m.ac, ji m.al]) ?_;refine w1 2 fun Kz hKz => ?_
 go_simp
 go_at_call 132
 refine (KK ad cap m.lg u0 (hv1.below hb0 (hv1.lt AT (by omega))) hl).mono ?_;rintro e u1 ⟨a1, c1, rfl, O1, kq⟩;have hb1 := AE hb0 kq;clear kq;refine hKz _ _ ⟨hb1, ?_⟩;clear hKz Kz;refine tw 16 19 (.agg #[.slice a1 m.lg.length c1, .bool m.up, ji m.li, ji m.ep, ji m.sd, ji m.ac, ji m.al]) ?_;refine w1 17 fun Kz hKz => ?_
 go_simp
 obtain ⟨u2, hu, kq⟩ := AI u1 (Obj.cells #[.slice a1 m.lg.length c1, .bool m.up, ji m.li, ji m.ep, ji m.sd, ji m.ac, ji m.al] 164);have M2 : CH u2 u1.heap.size m (.slice a1 m.lg.length c1) := by rw [hu]; exact CH.new u1 _ _ _
 have hb2 := AE hb1 kq;have O2 := O1.later kq;have lo := O1.lt;have hb1s := hb1.size;obtain ⟨q, hq⟩ := AC u1.heap.size;rw [← hq] at M2 lo hb1s ⊢;rw [← hu];clear hu kq hq;refine hKz _ _ ⟨hb2, ?_⟩;clear hKz Kz;refine tw 18 2 (.pointer (some (ja q 0))) ?_;refine AR ?_;have hO := O1.lt;go_wp2
 go_ret
 exact ⟨q, a1, c1, rfl, M2, O2.base (Nat.le_trans B0.size hb0.size), fun g e => (lo g e).2, by omega, AE B0 hb2⟩
end Go.Proofs.YtjmnaeeknomiaaaGreat
