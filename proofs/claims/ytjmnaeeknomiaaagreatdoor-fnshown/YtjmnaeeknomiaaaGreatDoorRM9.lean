import Derived.Test.YtjmnaeeknomiaaaGreatDoorRM8
namespace Go.Proofs.YtjmnaeeknomiaaaGreatDoor
open Go.ChangeShapes Go.WideShapes Go.ChangeAt Go.RowKit
open Go.ChangeMaps (open_string shut_string)
set_option linter.unusedVariables false
set_option maxRecDepth 100000
set_option maxHeartbeats 32000000
set_option linter.unusedSimpArgs false
open Go.Proofs.Tryz
attribute [local go_sem] ji ja
structure Ik where
 k : Int
 q : Int
 r : Int
 c : Int
 b : Int
 p : Int
 h : Int
 up : Bool
abbrev ic (x : Ik) : Array Value := #[ji x.k, ji x.q, ji x.r, ji x.c, ji x.b, ji x.p, ji x.h, .bool x.up]
attribute [local go_sem] ic
structure Bh (w : World) (o : Nat) (x : Ik) : Prop where
 c0 : w.cell? (ja o 0) = some (ji x.k)
 c1 : w.cell? (ja o 1) = some (ji x.q)
 c2 : w.cell? (ja o 2) = some (ji x.r)
 c3 : w.cell? (ja o 3) = some (ji x.c)
 c4 : w.cell? (ja o 4) = some (ji x.b)
 c5 : w.cell? (ja o 5) = some (ji x.p)
 c6 : w.cell? (ja o 6) = some (ji x.h)
 c7 : w.cell? (ja o 7) = some (.bool x.up)
theorem Bh.all {w : World} {o : Nat} {x : Ik} (h : Bh w o x) : w.cell? (ja o 0) = some (ji x.k) ∧ w.cell? (ja o 1) = some (ji x.q) ∧ w.cell? (ja o 2) = some (ji x.r) ∧ w.cell? (ja o 3) = some (ji x.c) ∧ w.cell? (ja o 4) = some (ji x.b) ∧ w.cell? (ja o 5) = some (ji x.p) ∧ w.cell? (ja o 6) = some (ji x.h) ∧ w.cell? (ja o 7) = some (.bool x.up) := ⟨h.c0, h.c1, h.c2, h.c3, h.c4, h.c5, h.c6, h.c7⟩
theorem Bh.keep {w w' : World} {o : Nat} {x : Ik} (h : Bh w o x) (k : w'.heap[o]? = w.heap[o]?) : Bh w' o x :=
 ⟨(World.cell?_of_block (a := (ja o 0)) k).trans h.c0, (World.cell?_of_block (a := (ja o 1)) k).trans h.c1, (World.cell?_of_block (a := (ja o 2)) k).trans h.c2, (World.cell?_of_block (a := (ja o 3)) k).trans h.c3, (World.cell?_of_block (a := (ja o 4)) k).trans h.c4, (World.cell?_of_block (a := (ja o 5)) k).trans h.c5, (World.cell?_of_block (a := (ja o 6)) k).trans h.c6, (World.cell?_of_block (a := (ja o 7)) k).trans h.c7⟩
theorem Bh.below {w w' : World} {o n : Nat} {x : Ik} (h : Bh w o x) (k : Below n w w') (ho : o < n) : Bh w' o x := h.keep (k.block o ho)
theorem Bh.lt {w : World} {o : Nat} {x : Ik} (h : Bh w o x) : o < w.heap.size := World.block_lt_of_cell? w _ h.c0
theorem Bh.new (w : World) (t : TypeId) (x : Ik) : Bh (w.alloc (Obj.cells #[ji x.k, ji x.q, ji x.r, ji x.c, ji x.b, ji x.p, ji x.h, .bool x.up] t)) w.heap.size x := by
 constructor <;> simp [go_sem]
def CR (x : Ik) : Bool :=
 if x.k = 1 then decide (0 ≤ x.q ∧ x.q ≤ 3) && (Bc x.r x.c x.b x.p && (decide (0 ≤ x.h ∧ x.h ≤ 8) && !x.up))
 else if x.k = 3 then decide (0 ≤ x.q ∧ x.q ≤ 3) && (decide (x.r = 0 ∧ x.c = 0 ∧ x.b = 0 ∧ x.p = 0) && (x.h == 0))
 else if x.k = 2 then decide (x.q = 0 ∧ x.r = 0 ∧ x.c = 0 ∧ x.b = 0 ∧ x.p = 0 ∧ x.h = 0 ∧ x.up = false)
 else false
structure Mi where
 up : Bool
 li : Int
 ep : Int
 lg : List Ik
 sd : Int
 ac : Int
 al : Int
abbrev mc (m : Mi) (a : Option Addr) (c : Nat) : Array Value := #[.bool m.up, ji m.li, ji m.ep, .slice a m.lg.length c, ji m.sd, ji m.ac, ji m.al]
attribute [local go_sem] mc
def CK (v : Int) : Bool := decide (0 ≤ v ∧ v ≤ 100000)
def DN (X : List Ik) : Bool := X.all CR && decide (X.length ≤ 60)
def BM (m : Mi) : Bool :=
 CK m.li && (CK m.ep && (CK m.al && (DN m.lg && (decide (0 ≤ m.sd ∧ m.sd ≤ (m.lg.length : Int)) && (decide (0 ≤ m.ac ∧ m.ac ≤ (m.lg.length : Int)) && (m.up || (decide (m.ep = 0) && (decide (m.lg.length = 0) && decide (m.al = 0)))))))))
def Cb (m : Mi) (x : Ik) : Mi := ⟨m.up, m.li, m.ep, m.lg ++ [x], m.sd, m.ac, m.al⟩
def DU (m : Mi) (x : Ik) : Bool := m.up && BM (Cb m x)
def AN (m : Mi) (x : Ik) : Mi := if DU m x then Cb m x else m
theorem Ho {m : Mi} {x : Ik} (h : DU m x = false) : AN m x = m := by unfold AN; rw [h]; rfl
def Dr (m : Mi) (p : Int) : Bool :=
 m.up && (decide (0 < m.ep) && (decide (m.sd < (m.lg.length : Int)) && (decide (p = 0) || (decide (m.al = p) && decide (m.sd < m.ac)))))
theorem Jk {m : Mi} {p : Int} (h : Dr m p = true) : m.sd < (m.lg.length : Int) ∧ (p ≠ 0 → m.sd < m.ac) := by
 unfold Dr at h;simp only [Bool.and_eq_true, Bool.or_eq_true, decide_eq_true_eq] at h;refine ⟨h.2.2.1, fun hp => ?_⟩;rcases h.2.2.2 with e | e
 ·
  exact absurd e hp
 exact e.2
structure Ab (w : World) (q : Nat) (m : Mi) (v : Value) : Prop where
 c0 : w.cell? (ja q 0) = some (.bool m.up)
 c1 : w.cell? (ja q 1) = some (ji m.li)
 c2 : w.cell? (ja q 2) = some (ji m.ep)
 c3 : w.cell? (ja q 3) = some (v)
 c4 : w.cell? (ja q 4) = some (ji m.sd)
 c5 : w.cell? (ja q 5) = some (ji m.ac)
 c6 : w.cell? (ja q 6) = some (ji m.al)
theorem Ab.all {w : World} {q : Nat} {m : Mi} {v : Value} (h : Ab w q m v) : w.cell? (ja q 0) = some (.bool m.up) ∧ w.cell? (ja q 1) = some (ji m.li) ∧ w.cell? (ja q 2) = some (ji m.ep) ∧ w.cell? (ja q 3) = some (v) ∧ w.cell? (ja q 4) = some (ji m.sd) ∧ w.cell? (ja q 5) = some (ji m.ac) ∧ w.cell? (ja q 6) = some (ji m.al) := ⟨h.c0, h.c1, h.c2, h.c3, h.c4, h.c5, h.c6⟩
theorem Ab.keep {w w' : World} {q : Nat} {m : Mi} {v : Value} (h : Ab w q m v) (k : w'.heap[q]? = w.heap[q]?) : Ab w' q m v :=
 ⟨(World.cell?_of_block (a := (ja q 0)) k).trans h.c0, (World.cell?_of_block (a := (ja q 1)) k).trans h.c1, (World.cell?_of_block (a := (ja q 2)) k).trans h.c2, (World.cell?_of_block (a := (ja q 3)) k).trans h.c3, (World.cell?_of_block (a := (ja q 4)) k).trans h.c4, (World.cell?_of_block (a := (ja q 5)) k).trans h.c5, (World.cell?_of_block (a := (ja q 6)) k).trans h.c6⟩
theorem Ab.below {w w' : World} {q n : Nat} {m : Mi} {v : Value} (h : Ab w q m v) (k : Below n w w') (hq : q < n) : Ab w' q m v := h.keep (k.block q hq)
theorem Ab.lt {w : World} {q : Nat} {m : Mi} {v : Value} (h : Ab w q m v) : q < w.heap.size := World.block_lt_of_cell? w _ h.c0
theorem Ab.new (w : World) (t : TypeId) (m : Mi) (v : Value) : Ab (w.alloc (Obj.cells #[.bool m.up, ji m.li, ji m.ep, v, ji m.sd, ji m.ac, ji m.al] t)) w.heap.size m v := by
 refine ⟨?_, ?_, ?_, ?_, ?_, ?_, ?_⟩ <;> simp [go_sem]
structure AQ (w : World) (q : Nat) (m : Mi) (v : Value) : Prop where
 c0 : w.cell? (ja q 0) = some (.bool m.up)
 c1 : w.cell? (ja q 1) = some (ji m.li)
 c2 : w.cell? (ja q 2) = some (ji m.ep)
 c3 : w.cell? (ja q 3) = some (v)
 c4 : w.cell? (ja q 4) = some (ji m.sd)
 c5 : w.cell? (ja q 5) = some (ji m.ac)
 c6 : w.cell? (ja q 6) = some (ji m.al)
 fr : ∀ i, w.frozen? (ja q i) = false
theorem AQ.all {w : World} {q : Nat} {m : Mi} {v : Value} (h : AQ w q m v) : w.cell? (ja q 0) = some (.bool m.up) ∧ w.cell? (ja q 1) = some (ji m.li) ∧ w.cell? (ja q 2) = some (ji m.ep) ∧ w.cell? (ja q 3) = some (v) ∧ w.cell? (ja q 4) = some (ji m.sd) ∧ w.cell? (ja q 5) = some (ji m.ac) ∧ w.cell? (ja q 6) = some (ji m.al) := ⟨h.c0, h.c1, h.c2, h.c3, h.c4, h.c5, h.c6⟩
theorem AQ.keep {w w' : World} {q : Nat} {m : Mi} {v : Value} (h : AQ w q m v) (k : w'.heap[q]? = w.heap[q]?) : AQ w' q m v :=
 ⟨(World.cell?_of_block (a := (ja q 0)) k).trans h.c0, (World.cell?_of_block (a := (ja q 1)) k).trans h.c1, (World.cell?_of_block (a := (ja q 2)) k).trans h.c2, (World.cell?_of_block (a := (ja q 3)) k).trans h.c3, (World.cell?_of_block (a := (ja q 4)) k).trans h.c4, (World.cell?_of_block (a := (ja q 5)) k).trans h.c5, (World.cell?_of_block (a := (ja q 6)) k).trans h.c6, fun i => (World.frozen?_of_block (a := (ja q i)) k).trans (h.fr i)⟩
theorem AQ.below {w w' : World} {q n : Nat} {m : Mi} {v : Value} (h : AQ w q m v) (k : Below n w w') (hq : q < n) : AQ w' q m v := h.keep (k.block q hq)
theorem AQ.lt {w : World} {q : Nat} {m : Mi} {v : Value} (h : AQ w q m v) : q < w.heap.size := World.block_lt_of_cell? w _ h.c0
theorem AQ.new (w : World) (t : TypeId) (m : Mi) (v : Value) : AQ (w.alloc (Obj.cells #[.bool m.up, ji m.li, ji m.ep, v, ji m.sd, ji m.ac, ji m.al] t)) w.heap.size m v := by
 refine ⟨?_, ?_, ?_, ?_, ?_, ?_, ?_, ?_⟩ <;> simp [go_sem]
theorem AQ.at_ {w : World} {q : Nat} {m : Mi} {v : Value} (h : AQ w q m v) : Ab w q m v := ⟨h.c0, h.c1, h.c2, h.c3, h.c4, h.c5, h.c6⟩
theorem AQ.log {w : World} {q : Nat} {m : Mi} {v : Value} (h : AQ w q m v) (v' : Value) : AQ (w.setCell (ja q 3) v') q m v' :=
 ⟨(AB (by decide)).trans h.c0, (AB (by decide)).trans h.c1, (AB (by decide)).trans h.c2, Al h.c3, (AB (by decide)).trans h.c4, (AB (by decide)).trans h.c5, (AB (by decide)).trans h.c6, fun i => by rw [World.frozen?_setCell]; exact h.fr i⟩
theorem AQ.lg {w : World} {q : Nat} {m : Mi} {v : Value} (L : List Ik) (h : AQ w q m v) : AQ w q { m with lg := L } v := ⟨h.c0, h.c1, h.c2, h.c3, h.c4, h.c5, h.c6, h.fr⟩
end Go.Proofs.YtjmnaeeknomiaaaGreatDoor
namespace Go.Proofs.YtjmnaeeknomiaaaGreatDoor
open Go.ChangeShapes Go.WideShapes Go.ChangeAt Go.RowKit
open Go.ChangeMaps (open_string shut_string)
set_option linter.unusedVariables false
set_option maxRecDepth 100000
set_option maxHeartbeats 32000000
set_option linter.unusedSimpArgs false
open Go.Proofs.Tryz
structure Rg where
 ep : Int
 ow : Int
 pa : Int
def CB (r : Rg) : Bool := decide (1 ≤ r.ep ∧ r.ep ≤ 100000) && (decide (0 ≤ r.ow ∧ r.ow ≤ 1) && CK r.pa)
def EP (r : Rg) (s : Int) (m : Mi) : Bool := CB r && (BM m && (m.up && (decide (s = r.ow) && decide (m.ep = r.ep))))
def DM (r : Rg) (s : Int) (m : Mi) : Bool :=
 CB r && (BM m && (m.up && (decide (0 ≤ s ∧ s ≤ 1) && (decide (s ≠ r.ow) && (decide (0 < m.li) && decide (m.li = r.pa))))))
def CH (r : Rg) (s : Int) : Rg := ⟨r.ep + 1, s, 0⟩
def BO (r : Rg) (m : Mi) : Mi := ⟨m.up, m.li, r.ep + 1, m.lg, m.sd, 0, 0⟩
def CM (r : Rg) (s : Int) (m : Mi) : Bool := DM r s m && (CB (CH r s) && BM (BO r m))
def DT (r : Rg) (s : Int) (m : Mi) (p : Int) : Bool := EP r s m && (decide (p = 0) || (decide (p = m.al) && decide (m.ac = (m.lg.length : Int))))
def Df (r : Rg) (s : Int) (m : Mi) (p : Int) : Rg := if DT r s m p then ⟨r.ep, r.ow, p⟩ else r
theorem FT {m : Mi} : BM m = true ↔ CK m.li = true ∧ CK m.ep = true ∧ CK m.al = true ∧ DN m.lg = true ∧ (0 ≤ m.sd ∧ m.sd ≤ (m.lg.length : Int)) ∧ (0 ≤ m.ac ∧ m.ac ≤ (m.lg.length : Int)) ∧ (m.up = true ∨ m.ep = 0 ∧ m.lg.length = 0 ∧ m.al = 0) := by
 unfold BM;simp only [Bool.and_eq_true, Bool.or_eq_true, decide_eq_true_eq]
theorem KP {r : Rg} : CB r = true ↔ (1 ≤ r.ep ∧ r.ep ≤ 100000) ∧ (0 ≤ r.ow ∧ r.ow ≤ 1) ∧ CK r.pa = true := by
 unfold CB;simp only [Bool.and_eq_true, decide_eq_true_eq]
theorem Gf {r : Rg} {s : Int} {m : Mi} {p : Int} (h : DT r s m p = false) : Df r s m p = r := by unfold Df; rw [h]; rfl
attribute [local go_sem] ji ja pc
def DW (up : Bool) : Pt := if up then ⟨true, false, 0, 0, 0, 0, 0, 0, 3, 0, false⟩ else Pt.nil
theorem Jd {x : Pt} (h : Ae x = true) : CF x = if ((Aq x).ro = 1 ∨ (Aq x).ro = 2) ∧ 0 < (Aq x).wa then { Aq x with wa := (Aq x).wa - 1, op := ((Aq x).wa - 1 == 0) } else Aq x := by
 obtain ⟨h1, h2, h3, h4, _⟩ := Fq.1 h;obtain ⟨k1, k2, k3, k4⟩ := GW x;unfold CF Dt;generalize Aq x = y at *
 obtain ⟨up, has, r, c, b, p, hh, l, ro, wa, op⟩ := y;dsimp only at *
 by_cases hc : (ro = 1 ∨ ro = 2) ∧ 0 < wa
 ·
  rw [if_pos hc, if_pos hc];congr 1
  unfold Ay;rw [Bool.eq_iff_iff];simp only [decide_eq_true_eq, beq_iff_eq];omega
 rw [if_neg hc, if_neg hc];congr 1
 rw [k4, h3, k2, k3]
def Ik.nil : Ik := ⟨0, 0, 0, 0, 0, 0, 0, false⟩
def AW (x : Ik) : List Value := [ji x.k, ji x.q, ji x.r, ji x.c, ji x.b, ji x.p, ji x.h, .bool x.up]
theorem Av (x : Ik) : (AW x).length = 8 := rfl
theorem FB (L : List Ik) : ∀ u ∈ AT AW L, u.oneCell' = true := by
 induction L with
 | nil => intro u h; cases h
 | cons x L ih =>
  intro u h;simp only [AT, AW, List.mem_append, List.mem_cons, List.not_mem_nil, or_false] at h;rcases h with (rfl | rfl | rfl | rfl | rfl | rfl | rfl | rfl) | h
  ·
   rfl
  ·
   rfl
  ·
   rfl
  ·
   rfl
  ·
   rfl
  ·
   rfl
  ·
   rfl
  ·
   rfl
  exact ih u h
structure CJ (w : World) (b o : Nat) (x : Ik) : Prop where
 c0 : w.cell? (ja b o) = some (ji x.k)
 c1 : w.cell? ⟨b, o + 1, none⟩ = some (ji x.q)
 c2 : w.cell? ⟨b, o + 2, none⟩ = some (ji x.r)
 c3 : w.cell? ⟨b, o + 3, none⟩ = some (ji x.c)
 c4 : w.cell? ⟨b, o + 4, none⟩ = some (ji x.b)
 c5 : w.cell? ⟨b, o + 5, none⟩ = some (ji x.p)
 c6 : w.cell? ⟨b, o + 6, none⟩ = some (ji x.h)
 c7 : w.cell? ⟨b, o + 7, none⟩ = some (.bool x.up)
theorem CJ.all {w : World} {b o : Nat} {x : Ik} (h : CJ w b o x) : w.cell? (ja b o) = some (ji x.k) ∧ w.cell? ⟨b, o + 1, none⟩ = some (ji x.q) ∧ w.cell? ⟨b, o + 2, none⟩ = some (ji x.r) ∧ w.cell? ⟨b, o + 3, none⟩ = some (ji x.c) ∧ w.cell? ⟨b, o + 4, none⟩ = some (ji x.b) ∧ w.cell? ⟨b, o + 5, none⟩ = some (ji x.p) ∧ w.cell? ⟨b, o + 6, none⟩ = some (ji x.h) ∧ w.cell? ⟨b, o + 7, none⟩ = some (.bool x.up) := ⟨h.c0, h.c1, h.c2, h.c3, h.c4, h.c5, h.c6, h.c7⟩
theorem FU {w : World} {b o : Nat} {x : Ik} (h : ∀ j v, (AW x)[j]? = some v → w.cell? ⟨b, o + j, none⟩ = some v) : CJ w b o x := ⟨h 0 _ rfl, h 1 _ rfl, h 2 _ rfl, h 3 _ rfl, h 4 _ rfl, h 5 _ rfl, h 6 _ rfl, h 7 _ rfl⟩
theorem CJ.below {w w' : World} {q o n : Nat} {x : Ik} (h : CJ w q o x) (k : Below n w w') (hq : q < n) : CJ w' q o x :=
 ⟨(World.cell?_of_block (a := (ja q o)) (k.block q hq)).trans h.c0, (World.cell?_of_block (a := ⟨q, o + 1, none⟩) (k.block q hq)).trans h.c1, (World.cell?_of_block (a := ⟨q, o + 2, none⟩) (k.block q hq)).trans h.c2, (World.cell?_of_block (a := ⟨q, o + 3, none⟩) (k.block q hq)).trans h.c3, (World.cell?_of_block (a := ⟨q, o + 4, none⟩) (k.block q hq)).trans h.c4, (World.cell?_of_block (a := ⟨q, o + 5, none⟩) (k.block q hq)).trans h.c5, (World.cell?_of_block (a := ⟨q, o + 6, none⟩) (k.block q hq)).trans h.c6, (World.cell?_of_block (a := ⟨q, o + 7, none⟩) (k.block q hq)).trans h.c7⟩
def Bz (x : Bool) : List Value := [.bool x]
theorem EE (x : Bool) : (Bz x).length = 1 := rfl
theorem HQ (L : List Bool) : ∀ u ∈ AT Bz L, u.oneCell' = true := by
 induction L with
 | nil => intro u h; cases h
 | cons x L ih =>
  intro u h;simp only [AT, Bz, List.mem_append, List.mem_cons, List.not_mem_nil, or_false] at h;rcases h with rfl | h
  ·
   rfl
  exact ih u h
theorem IS : (prog.info? 4).map (fun i => (i.zero, i.size, i.bytes)) = some (some (.bool false), 1, 1) := by kernel_rfl
theorem AI.oneB (w : World) (t : TypeId) (x : Bool) : AI Bz (w.alloc (Obj.cells #[.bool x] t)) (some (ja w.heap.size 0)) [x] := by
 intro _;refine ⟨w.heap.size, 0, rfl, fun j v hv => ?_⟩;match j, hv with
 | 0, hv => cases hv; simp [go_sem]
 | j + 1, hv => simp [AT, Bz] at hv
def CE (L : List Pt) : List Bool := L.map Pt.op
theorem Fy (L : List Pt) : (CE L).length = L.length := List.length_map ..
theorem I2 (L : List Pt) {k : Nat} (hk : k < L.length) : CE (L.take (k + 1)) = CE (L.take k) ++ [(L.getD k Pt.nil).op] := by
 unfold CE;rw [List.take_add_one, List.map_append];have e : L[k]?.toList = [L.getD k Pt.nil] := by simp [List.getD, hk]
 rw [e]; rfl
end Go.Proofs.YtjmnaeeknomiaaaGreatDoor
namespace Go.Proofs.YtjmnaeeknomiaaaGreatDoor
open Go.ChangeShapes Go.WideShapes Go.ChangeAt Go.RowKit
open Go.ChangeMaps (open_string shut_string)
set_option linter.unusedVariables false
set_option maxRecDepth 100000
set_option maxHeartbeats 32000000
set_option linter.unusedSimpArgs false
open Go.Proofs.Tryz
theorem Hy {X : Type} (f : X → Bool) (L : List X) (d : X) {k : Nat} (hk : k < L.length) : (L.take (k + 1)).all f = ((L.take k).all f && f (L.getD k d)) := by
 rw [List.take_add_one, List.all_append];have e : L[k]?.toList = [L.getD k d] := by simp [List.getD, hk]
 rw [e]; simp
theorem IU {X : Type} (f : X → Bool) (L : List X) (d : X) {k : Nat} (hk : k < L.length) (h : f (L.getD k d) = false) : L.all f = false := by
 rw [List.all_eq_false];refine ⟨L.getD k d, ?_, by rw [h]; exact Bool.false_ne_true⟩;simp [List.getD, hk]
attribute [local go_sem] ji ja
theorem FZ : (prog.info? 27).map (fun i => (i.zero, i.size, i.bytes)) = some (some (.agg #[ji 0, ji 0, ji 0, ji 0, ji 0, ji 0, ji 0, .bool false]), 8, 64) := by kernel_rfl
attribute [local go_sem] mc
end Go.Proofs.YtjmnaeeknomiaaaGreatDoor
