import Derived.Test.YtnpiljegdiconaaGreatQKWRe5
namespace Go.Proofs.YtnpiljegdiconaaGreat
open Go.ChangeShapes Go.WideShapes Go.ChangeAt Go.RowKit
open Go.ChangeMaps (open_string shut_string)
set_option linter.unusedVariables false
set_option maxRecDepth 100000
structure Mi where
 up : Bool
 li : Int
 ep : Int
 lg : List Ik
 sd : Int
 ac : Int
 al : Int
def numB (v : Int) : Bool := decide (0 ≤ v ∧ v ≤ 100000)
def insB (X : List Ik) : Bool := X.all inOk && decide (X.length ≤ 60)
def miOk (m : Mi) : Bool :=
 numB m.li && (numB m.ep && (numB m.al && (insB m.lg && (decide (0 ≤ m.sd ∧ m.sd ≤ (m.lg.length : Int)) && (decide (0 ≤ m.ac ∧ m.ac ≤ (m.lg.length : Int)) && (m.up || (decide (m.ep = 0) && (decide (m.lg.length = 0) && decide (m.al = 0)))))))))
def noteM (m : Mi) (x : Ik) : Mi := ⟨m.up, m.li, m.ep, m.lg ++ [x], m.sd, m.ac, m.al⟩
def noteB (m : Mi) (x : Ik) : Bool := m.up && miOk (noteM m x)
def noteR (m : Mi) (x : Ik) : Mi := if noteB m x then noteM m x else m
theorem note_not {m : Mi} {x : Ik} (h : noteB m x = false) : noteR m x = m := by unfold noteR; rw [h]; rfl
def readyB (m : Mi) (p : Int) : Bool :=
 m.up && (decide (0 < m.ep) && (decide (m.sd < (m.lg.length : Int)) && (decide (p = 0) || (decide (m.al = p) && decide (m.sd < m.ac)))))
theorem ready_is {m : Mi} {p : Int} (h : readyB m p = true) : m.sd < (m.lg.length : Int) ∧ (p ≠ 0 → m.sd < m.ac) := by
 unfold readyB at h;simp only [Bool.and_eq_true, Bool.or_eq_true, decide_eq_true_eq] at h;refine ⟨h.2.2.1, fun hp => ?_⟩;rcases h.2.2.2 with e | e
 ·
  exact absurd e hp
 exact e.2
theorem react_not {id : Int} {L : List Pt} {x : Ik} (h : bOk id L = false) : reactL id L x = L ∧ reactO id L x = [] := by
 unfold reactL reactO goes;simp [h]
def ofL (id : Int) (L : List Pt) (X : List Ik) : List Pt := X.foldl (reactL id) L
theorem ofL_app (id : Int) (L : List Pt) (X Y : List Ik) : ofL id L (X ++ Y) = ofL id (ofL id L X) Y := by
 unfold ofL; rw [List.foldl_append]
theorem ofL_len (id : Int) (X : List Ik) : ∀ L : List Pt, (ofL id L X).length = L.length := by
 induction X with
 | nil => intro L; rfl
 | cons x X ih => intro L; show (ofL id (reactL id L x) X).length = _; rw [ih, reactL_len]
theorem ofL_not {id : Int} (X : List Ik) : ∀ {L : List Pt}, bOk id L = false → ofL id L X = L := by
 induction X with
 | nil => intro L _; rfl
 | cons x X ih => intro L h; show ofL id (reactL id L x) X = L; rw [(react_not h).1]; exact ih h
theorem ofL_step (id : Int) (L : List Pt) (X : List Ik) (d : Ik) {k : Nat} (hk : k < X.length) : ofL id L (X.take (k + 1)) = reactL id (ofL id L (X.take k)) (X.getD k d) := by
 rw [List.take_add_one, ofL_app];have e : X[k]?.toList = [X.getD k d] := by simp [List.getD, hk]
 rw [e]; rfl
def sayL (id : Int) (L : List Pt) (X : List Ik) (d : Ik) (n : Int) : List Ou :=
 if 0 ≤ n ∧ n < (X.length : Int) then reactO id (ofL id L (X.take n.toNat)) (X.getD n.toNat d) else []
theorem sayL_at (id : Int) (L : List Pt) (X : List Ik) (d : Ik) {k : Nat} (hk : k < X.length) : sayL id L X d (k : Int) = reactO id (ofL id L (X.take k)) (X.getD k d) := by
 unfold sayL; rw [if_pos ⟨by omega, by omega⟩]; simp
def Ik.nil : Ik := ⟨0, 0, 0, 0, 0, 0, 0, false⟩
def ikEnc (x : Ik) : List Value := [.int .i64 x.k, .int .i64 x.q, .int .i64 x.r, .int .i64 x.c, .int .i64 x.b, .int .i64 x.p, .int .i64 x.h, .bool x.up]
theorem ikEnc_len (x : Ik) : (ikEnc x).length = 8 := rfl
theorem ikEnc_ones (L : List Ik) : ∀ u ∈ fcells ikEnc L, u.oneCell' = true := by
 induction L with
 | nil => intro u h; cases h
 | cons x L ih =>
  intro u h;simp only [fcells, ikEnc, List.mem_append, List.mem_cons, List.not_mem_nil, or_false] at h;rcases h with (rfl | rfl | rfl | rfl | rfl | rfl | rfl | rfl) | h
  ·
   rfl
  ·
   rfl
  ·
   rfl
  ·
   rfl
  ·
   rfl
  ·
   rfl
  ·
   rfl
  ·
   rfl
  exact ih u h
structure IkAtO (w : World) (b o : Nat) (x : Ik) : Prop where
 c0 : w.cell? ⟨b, o, none⟩ = some (.int .i64 x.k)
 c1 : w.cell? ⟨b, o + 1, none⟩ = some (.int .i64 x.q)
 c2 : w.cell? ⟨b, o + 2, none⟩ = some (.int .i64 x.r)
 c3 : w.cell? ⟨b, o + 3, none⟩ = some (.int .i64 x.c)
 c4 : w.cell? ⟨b, o + 4, none⟩ = some (.int .i64 x.b)
 c5 : w.cell? ⟨b, o + 5, none⟩ = some (.int .i64 x.p)
 c6 : w.cell? ⟨b, o + 6, none⟩ = some (.int .i64 x.h)
 c7 : w.cell? ⟨b, o + 7, none⟩ = some (.bool x.up)
theorem ikAtO_of {w : World} {b o : Nat} {x : Ik} (h : ∀ j v, (ikEnc x)[j]? = some v → w.cell? ⟨b, o + j, none⟩ = some v) : IkAtO w b o x := ⟨h 0 _ rfl, h 1 _ rfl, h 2 _ rfl, h 3 _ rfl, h 4 _ rfl, h 5 _ rfl, h 6 _ rfl, h 7 _ rfl⟩
theorem IkAtO.below {w w' : World} {q o n : Nat} {x : Ik} (h : IkAtO w q o x) (k : Below n w w') (hq : q < n) : IkAtO w' q o x :=
 ⟨(World.cell?_of_block (a := ⟨q, o, none⟩) (k.block q hq)).trans h.c0, (World.cell?_of_block (a := ⟨q, o + 1, none⟩) (k.block q hq)).trans h.c1, (World.cell?_of_block (a := ⟨q, o + 2, none⟩) (k.block q hq)).trans h.c2, (World.cell?_of_block (a := ⟨q, o + 3, none⟩) (k.block q hq)).trans h.c3, (World.cell?_of_block (a := ⟨q, o + 4, none⟩) (k.block q hq)).trans h.c4, (World.cell?_of_block (a := ⟨q, o + 5, none⟩) (k.block q hq)).trans h.c5, (World.cell?_of_block (a := ⟨q, o + 6, none⟩) (k.block q hq)).trans h.c6, (World.cell?_of_block (a := ⟨q, o + 7, none⟩) (k.block q hq)).trans h.c7⟩
structure MiAt (w : World) (q : Nat) (m : Mi) (v : Value) : Prop where
 c0 : w.cell? ⟨q, 0, none⟩ = some (.bool m.up)
 c1 : w.cell? ⟨q, 1, none⟩ = some (.int .i64 m.li)
 c2 : w.cell? ⟨q, 2, none⟩ = some (.int .i64 m.ep)
 c3 : w.cell? ⟨q, 3, none⟩ = some (v)
 c4 : w.cell? ⟨q, 4, none⟩ = some (.int .i64 m.sd)
 c5 : w.cell? ⟨q, 5, none⟩ = some (.int .i64 m.ac)
 c6 : w.cell? ⟨q, 6, none⟩ = some (.int .i64 m.al)
theorem MiAt.keep {w w' : World} {q : Nat} {m : Mi} {v : Value} (h : MiAt w q m v) (k : w'.heap[q]? = w.heap[q]?) : MiAt w' q m v :=
 ⟨(World.cell?_of_block (a := ⟨q, 0, none⟩) k).trans h.c0, (World.cell?_of_block (a := ⟨q, 1, none⟩) k).trans h.c1, (World.cell?_of_block (a := ⟨q, 2, none⟩) k).trans h.c2, (World.cell?_of_block (a := ⟨q, 3, none⟩) k).trans h.c3, (World.cell?_of_block (a := ⟨q, 4, none⟩) k).trans h.c4, (World.cell?_of_block (a := ⟨q, 5, none⟩) k).trans h.c5, (World.cell?_of_block (a := ⟨q, 6, none⟩) k).trans h.c6⟩
theorem MiAt.below {w w' : World} {q n : Nat} {m : Mi} {v : Value} (h : MiAt w q m v) (k : Below n w w') (hq : q < n) : MiAt w' q m v := h.keep (k.block q hq)
theorem MiAt.lt {w : World} {q : Nat} {m : Mi} {v : Value} (h : MiAt w q m v) : q < w.heap.size := World.block_lt_of_cell? w _ h.c0
theorem MiAt.new (w : World) (t : TypeId) (m : Mi) (v : Value) : MiAt (w.alloc (Obj.cells #[.bool m.up, .int .i64 m.li, .int .i64 m.ep, v, .int .i64 m.sd, .int .i64 m.ac, .int .i64 m.al] t)) w.heap.size m v := by
 refine ⟨?_, ?_, ?_, ?_, ?_, ?_, ?_⟩ <;> simp [go_sem]
structure MiBox (w : World) (q : Nat) (m : Mi) (v : Value) : Prop where
 c0 : w.cell? ⟨q, 0, none⟩ = some (.bool m.up)
 c1 : w.cell? ⟨q, 1, none⟩ = some (.int .i64 m.li)
 c2 : w.cell? ⟨q, 2, none⟩ = some (.int .i64 m.ep)
 c3 : w.cell? ⟨q, 3, none⟩ = some (v)
 c4 : w.cell? ⟨q, 4, none⟩ = some (.int .i64 m.sd)
 c5 : w.cell? ⟨q, 5, none⟩ = some (.int .i64 m.ac)
 c6 : w.cell? ⟨q, 6, none⟩ = some (.int .i64 m.al)
 fr : ∀ i, w.frozen? ⟨q, i, none⟩ = false
theorem MiBox.keep {w w' : World} {q : Nat} {m : Mi} {v : Value} (h : MiBox w q m v) (k : w'.heap[q]? = w.heap[q]?) : MiBox w' q m v :=
 ⟨(World.cell?_of_block (a := ⟨q, 0, none⟩) k).trans h.c0, (World.cell?_of_block (a := ⟨q, 1, none⟩) k).trans h.c1, (World.cell?_of_block (a := ⟨q, 2, none⟩) k).trans h.c2, (World.cell?_of_block (a := ⟨q, 3, none⟩) k).trans h.c3, (World.cell?_of_block (a := ⟨q, 4, none⟩) k).trans h.c4, (World.cell?_of_block (a := ⟨q, 5, none⟩) k).trans h.c5, (World.cell?_of_block (a := ⟨q, 6, none⟩) k).trans h.c6, fun i => (World.frozen?_of_block (a := ⟨q, i, none⟩) k).trans (h.fr i)⟩
theorem MiBox.below {w w' : World} {q n : Nat} {m : Mi} {v : Value} (h : MiBox w q m v) (k : Below n w w') (hq : q < n) : MiBox w' q m v := h.keep (k.block q hq)
theorem MiBox.lt {w : World} {q : Nat} {m : Mi} {v : Value} (h : MiBox w q m v) : q < w.heap.size := World.block_lt_of_cell? w _ h.c0
theorem MiBox.new (w : World) (t : TypeId) (m : Mi) (v : Value) : MiBox (w.alloc (Obj.cells #[.bool m.up, .int .i64 m.li, .int .i64 m.ep, v, .int .i64 m.sd, .int .i64 m.ac, .int .i64 m.al] t)) w.heap.size m v := by
 refine ⟨?_, ?_, ?_, ?_, ?_, ?_, ?_, ?_⟩ <;> simp [go_sem]
structure MgBox (w : World) (q : Nat) (m : Mi) (v : Value) : Prop where
 c0 : w.cell? ⟨q, 0, none⟩ = some (v)
 c1 : w.cell? ⟨q, 1, none⟩ = some (.bool m.up)
 c2 : w.cell? ⟨q, 2, none⟩ = some (.int .i64 m.li)
 c3 : w.cell? ⟨q, 3, none⟩ = some (.int .i64 m.ep)
 c4 : w.cell? ⟨q, 4, none⟩ = some (.int .i64 m.sd)
 c5 : w.cell? ⟨q, 5, none⟩ = some (.int .i64 m.ac)
 c6 : w.cell? ⟨q, 6, none⟩ = some (.int .i64 m.al)
 fr : ∀ i, w.frozen? ⟨q, i, none⟩ = false
theorem MgBox.keep {w w' : World} {q : Nat} {m : Mi} {v : Value} (h : MgBox w q m v) (k : w'.heap[q]? = w.heap[q]?) : MgBox w' q m v :=
 ⟨(World.cell?_of_block (a := ⟨q, 0, none⟩) k).trans h.c0, (World.cell?_of_block (a := ⟨q, 1, none⟩) k).trans h.c1, (World.cell?_of_block (a := ⟨q, 2, none⟩) k).trans h.c2, (World.cell?_of_block (a := ⟨q, 3, none⟩) k).trans h.c3, (World.cell?_of_block (a := ⟨q, 4, none⟩) k).trans h.c4, (World.cell?_of_block (a := ⟨q, 5, none⟩) k).trans h.c5, (World.cell?_of_block (a := ⟨q, 6, none⟩) k).trans h.c6, fun i => (World.frozen?_of_block (a := ⟨q, i, none⟩) k).trans (h.fr i)⟩
theorem MgBox.below {w w' : World} {q n : Nat} {m : Mi} {v : Value} (h : MgBox w q m v) (k : Below n w w') (hq : q < n) : MgBox w' q m v := h.keep (k.block q hq)
theorem MgBox.lt {w : World} {q : Nat} {m : Mi} {v : Value} (h : MgBox w q m v) : q < w.heap.size := World.block_lt_of_cell? w _ h.c0
theorem MgBox.new (w : World) (t : TypeId) (m : Mi) (v : Value) : MgBox (w.alloc (Obj.cells #[v, .bool m.up, .int .i64 m.li, .int .i64 m.ep, .int .i64 m.sd, .int .i64 m.ac, .int .i64 m.al] t)) w.heap.size m v := by
 refine ⟨?_, ?_, ?_, ?_, ?_, ?_, ?_, ?_⟩ <;> simp [go_sem]
theorem MiBox.at_ {w : World} {q : Nat} {m : Mi} {v : Value} (h : MiBox w q m v) : MiAt w q m v := ⟨h.c0, h.c1, h.c2, h.c3, h.c4, h.c5, h.c6⟩
theorem MiBox.log {w : World} {q : Nat} {m : Mi} {v : Value} (h : MiBox w q m v) (v' : Value) : MiBox (w.setCell ⟨q, 3, none⟩ v') q m v' :=
 ⟨(pset_else (by decide)).trans h.c0, (pset_else (by decide)).trans h.c1, (pset_else (by decide)).trans h.c2, pset_same h.c3, (pset_else (by decide)).trans h.c4, (pset_else (by decide)).trans h.c5, (pset_else (by decide)).trans h.c6, fun i => by rw [World.frozen?_setCell]; exact h.fr i⟩
theorem MgBox.log {w : World} {q : Nat} {m : Mi} {v : Value} (h : MgBox w q m v) (v' : Value) : MgBox (w.setCell ⟨q, 0, none⟩ v') q m v' :=
 ⟨pset_same h.c0, (pset_else (by decide)).trans h.c1, (pset_else (by decide)).trans h.c2, (pset_else (by decide)).trans h.c3, (pset_else (by decide)).trans h.c4, (pset_else (by decide)).trans h.c5, (pset_else (by decide)).trans h.c6, fun i => by rw [World.frozen?_setCell]; exact h.fr i⟩
theorem MiBox.lg {w : World} {q : Nat} {m : Mi} {v : Value} (L : List Ik) (h : MiBox w q m v) : MiBox w q { m with lg := L } v := ⟨h.c0, h.c1, h.c2, h.c3, h.c4, h.c5, h.c6, h.fr⟩
end Go.Proofs.YtnpiljegdiconaaGreat
namespace Go.Proofs.YtnpiljegdiconaaGreat
open Go.ChangeShapes Go.WideShapes Go.ChangeAt Go.RowKit
open Go.ChangeMaps (open_string shut_string)
set_option linter.unusedVariables false
set_option maxRecDepth 100000
theorem ikInfo : (Tryz.prog.info? 105).map (fun i => (i.zero, i.size, i.bytes)) = some (some (.agg #[.int .i64 0, .int .i64 0, .int .i64 0, .int .i64 0, .int .i64 0, .int .i64 0, .int .i64 0, .bool false]), 8, 64) := by kernel_rfl
theorem bOk_len4 {id : Int} {L : List Pt} (h : bOk id L = true) : L.length ≤ 4 := (bOk_all h).2.1.2
theorem reactO_len (id : Int) (L : List Pt) (x : Ik) : (reactO id L x).length ≤ 8 := by
 unfold reactO;split
 ·
  rename_i h
  unfold goes at h;simp only [Bool.and_eq_true] at h;have h4 := bOk_len4 h.1;have h1 := gates_len L (afterL id L x) L.length;have h2 := told_len id (afterL id L x) L.length;rw [List.length_append];split
  ·
   omega
  simp; omega
 simp
theorem FView.take {X : Type} {enc : X → List Value} {w : World} {ad : Option Addr} {L : List X} (h : FView enc w ad L) (k : Nat) : FView enc w ad (L.take k) := by
 intro hp;obtain ⟨b, off, e, hc⟩ := h (by rw [List.length_take] at hp; omega);refine ⟨b, off, e, fun j v hv => hc j v ?_⟩;rw [← List.take_append_drop k L, fcells_app, List.getElem?_append_left (List.getElem?_eq_some_iff.1 hv).1];exact hv
def ofR (id n : Int) (X : List Ik) : List Pt := ofL (newI id n) (newL id n) X
theorem newL_small (id n : Int) : (newL id n).length ≤ 4 := by
 unfold newL;split
 ·
  rename_i q
  unfold nOk at q;simp only [Bool.and_eq_true, decide_eq_true_eq] at q;rw [List.length_replicate];omega
 simp
theorem ofR_len (id n : Int) (X : List Ik) : (ofR id n X).length ≤ 4 := by
 unfold ofR; rw [ofL_len]; exact newL_small id n
theorem ofR_not {id n : Int} (X : List Ik) (h : nOk id n = false) : ofR id n X = [] ∧ newI id n = 0 := by
 have e1 : newI id n = 0 := by unfold newI; rw [h]; rfl
 have e2 : newL id n = [] := by unfold newL; rw [h]; rfl
 refine ⟨?_, e1⟩;unfold ofR;rw [e1, e2];exact ofL_not X (by decide)
def sayR (id n : Int) (X : List Ik) (i : Int) : List Ou := sayL (newI id n) (newL id n) X Ik.nil i
theorem sayR_len (id n : Int) (X : List Ik) (i : Int) : (sayR id n X i).length ≤ 8 := by
 unfold sayR sayL;split
 ·
  exact reactO_len _ _ _
 simp
theorem BBox.put1 {w : World} {q : Nat} {id : Int} {v : Value} (h : BBox w q id v) (id' : Int) (v' : Value) (k : Nat) (hk : k ≠ q) : ((w.setCell ⟨q, 0, none⟩ (.int .i64 id')).setCell ⟨q, 1, none⟩ v').heap[k]? = w.heap[k]? := by
 rw [Below.heap_setCell _ _ _ _ hk, Below.heap_setCell _ _ _ _ hk]
set_option maxHeartbeats 4000000 in
theorem bofS (id n : Int) (ad : Option Addr) (cap : Nat) (X : List Ik) (w : World) (hv : FView ikEnc w ad X) (hl : X.length ≤ 1048576) :
  Calls Tryz.prog 103 #[.int .i64 id, .int .i64 n, .slice ad X.length cap] w fun e w' => ∃ a c, e = .returned (.agg #[.int .i64 (newI id n), .slice a (ofR id n X).length c]) ∧ FOwn ptEnc 11 109 w.heap.size w' (.slice a (ofR id n X).length c) (ofR id n X) ∧ Below w.heap.size w w' := by
 have hB := hv.lt ikEnc_len (by omega);obtain ⟨y, hy⟩ := mk_ (w.alloc (Obj.cells #[.int .i64 0, .slice none 0 0] 56));have B0 : Below w.heap.size w y := by rw [hy]; exact below_new _
 have A0 : BBox y w.heap.size 0 (.slice none 0 0) := by rw [hy]; exact BBox.new w _ _ _
 have S0 := A0.lt;have hR : ofR id n X = ofL (newI id n) (newL id n) X := rfl;have hNl := newL_small id n;have hno := fun h => ofR_not (id := id) (n := n) X h
 obtain ⟨I, hI⟩ : ∃ v, newI id n = v := ⟨_, rfl⟩;obtain ⟨N, hN⟩ : ∃ v, newL id n = v := ⟨_, rfl⟩;obtain ⟨ok, hok⟩ : ∃ v, nOk id n = v := ⟨_, rfl⟩;obtain ⟨D, hD⟩ : ∃ v, ofR id n X = v := ⟨_, rfl⟩;rw [hI, hN, hD] at hR;rw [hI, hD, hok] at hno;rw [hN] at hNl;rw [hI, hD];replace hR : Hid _ := hR;replace hno : Hid _ := hno;replace hI : Hid _ := hI;replace hN : Hid _ := hN;replace hok : Hid _ := hok;clear hD;go_enter Tryz.func103, Tryz.ntmps103
 go_wp2_with fail
 go_at_call 30
 rw [← hy];clear hy;refine (newBS id n y).mono ?_;rintro e u1 ⟨a1, c1, rfl, O1, k1⟩;rw [hN.out] at O1;rw [hI.out, hN.out, hok.out];clear hI hN hok;have B1 := B0.trans (k1.mono B0.size);have A0 := A0.below k1 A0.lt;have s1 := k1.size;have lo1 := O1.lt;clear k1 B0;obtain ⟨u2, hu2⟩ := mk_ (u1.alloc (Obj.cells #[.int .i64 I, .slice a1 N.length c1] 56));have k2 : Below u1.heap.size u1 u2 := by rw [hu2]; exact below_new _
 have P2 : BBox u2 u1.heap.size I (.slice a1 N.length c1) := by rw [hu2]; exact BBox.new u1 _ _ _
 have B2 := B1.trans (k2.mono B1.size);have A0 := A0.below k2 A0.lt;have O1 := O1.later k2;have s2 := P2.lt;go_upto_region 2 with fail
 rw [← hu2];clear hu2 k2 B1;obtain ⟨p, hp⟩ := mk_ u1.heap.size;rw [← hp] at P2 s1 s2 lo1 ⊢;clear hp;have lp : w.heap.size < p := by omega
 clear hno;go_wp2
 go_loopw [9] (fun i wr => ∃ (k : Nat) (a : Option Addr) (c : Nat) (L : List Pt), k ≤ X.length ∧ i = .int .i64 k ∧ ofL I N (X.take k) = L ∧ BBox wr p I (.slice a L.length c) ∧ FOwn ptEnc 11 109 w.heap.size wr (.slice a L.length c) L ∧ (∀ g, (Value.slice a L.length c).ownBlock = some g → g ≠ p ∧ g ≠ w.heap.size) ∧ BBox wr w.heap.size 0 (.slice none 0 0) ∧ Below w.heap.size w wr) (fun i _ => X.length - (intOf i).toNat)
 case atStart => exact ⟨0, a1, c1, N, Nat.zero_le _, rfl, rfl, P2, O1.base (by omega), fun g e => by have := lo1 g e; omega, A0, B2⟩
 case round =>
  obtain ⟨k, a, c, L, hk, rfl, hL, P, O, hne, A, B⟩ := hrel;have hLl : L.length ≤ 4 := by rw [← hL, ofL_len]; exact hNl
  clear A0 P2 O1 B2 lo1;by_cases hlt : k < X.length
  ·
   have hst := ofL_step I N X Ik.nil hlt;rw [hL] at hst;replace hL : Hid _ := hL;obtain ⟨b, off, rfl, _⟩ := hv (by omega);obtain ⟨x, hh⟩ : ∃ x, X.getD k Ik.nil = x := ⟨_, rfl⟩;rw [hh] at hst;have hck : IkAtO wr b (off + k * 8) x := by
    rw [← hh];exact ikAtO_of ((hv.below B hB).at_ ikEnc_len Ik.nil hlt)
   have hcB : b < w.heap.size := hB ⟨b, off, none⟩ rfl (by omega);replace hst : Hid _ := hst;clear hh;have lp2 := P.lt;have bs := B.size;have ln := O.lt;go_upto_region 5 with fail
   refine wp_region_held (S := fun Y => Below w.heap.size wr Y) (by kernel_rfl) ?_;change wpAnyH _ _ _ _ _ _ _ _ (World.drew _);have hb0 : Below wr.heap.size wr wr.drew := (Below.refl _ _).drew;obtain ⟨u, hy0'⟩ : ∃ y_, y_ = wr.drew := ⟨_, rfl⟩;rw [← hy0'] at hb0 ⊢;clear hy0';have hc0 : Below w.heap.size wr u := hb0.mono (by omega);refine tw 1 24 (.slice (some ⟨b, off, none⟩) X.length cap) ?_;refine tw 2 25 (.int .i64 (k : Int)) ?_;refine tw 3 26 (.pointer (some ⟨b, off + k * 8, none⟩)) ?_;refine tw 4 27 (.agg #[.int .i64 x.k, .int .i64 x.q, .int .i64 x.r, .int .i64 x.c, .int .i64 x.b, .int .i64 x.p, .int .i64 x.h, .bool x.up]) ?_ (hy := by intro Y hSw; obtain ⟨X0, X1, X2, X3, X4, X5, X6, X7⟩ := hck.below hSw hcB; go_simp);have P := P.below hb0 P.lt;have A := A.below hb0 A.lt;have O := O.later hb0;have B3 := B.trans (hb0.mono B.size);have su := hb0.size;refine w1 0 fun Kz hKz => ?_
   obtain ⟨⟨p0, p1⟩, pf⟩ := _root_.id P;go_simp
   clear p0 p1 pf;refine hKz _ _ ⟨hc0, ?_⟩;clear hKz Kz;refine w1 5 fun Kz hKz => ?_
   go_simp
   go_at_call 77
   refine (reactS I a c L x u O.view.2 (by omega) O.capn).mono ?_;rintro e w2 ⟨a2, c2, o2, d2, rfl, O2, _, _, k2⟩;obtain ⟨M, hM⟩ : ∃ M, reactL I L x = M := ⟨_, rfl⟩;obtain ⟨OO, hOO⟩ : ∃ M, reactO I L x = M := ⟨_, rfl⟩;rw [hM] at O2 ⊢;rw [hOO];have hst2 : Hid (ofL I N (X.take (k + 1)) = M) := by unfold Hid; rw [hst.out]; exact hM
   clear hM hOO hst;have hc1 : Below w.heap.size wr w2 := hc0.trans (k2.mono (by omega));have P := P.below k2 P.lt;have A := A.below k2 A.lt;have B3 := B3.trans (k2.mono B3.size);refine hKz _ _ ⟨hc1, ?_⟩;clear hKz Kz;refine tw 6 22 (.tuple #[.agg #[.int .i64 I, .slice a2 M.length c2], .slice o2 OO.length d2]) ?_;refine tw 7 29 (.agg #[.int .i64 I, .slice a2 M.length c2]) ?_;refine tw 8 30 (.slice o2 OO.length d2) ?_;refine w1 9 fun Kz hKz => ?_
   obtain ⟨⟨p0, p1⟩, pf⟩ := _root_.id P;have g0 := pf 0;have g1 := pf 1;clear pf;go_simp
   clear p0 p1 g0 g1;have hc2 : Below w.heap.size wr ((w2.setCell ⟨p, 0, none⟩ (.int .i64 I)).setCell ⟨p, 1, none⟩ (.slice a2 M.length c2)) := (hc1.setCell (p := ⟨p, 0, none⟩) (by show _ ≤ p; omega) _).setCell (p := ⟨p, 1, none⟩) (by show _ ≤ p; omega) _;refine hKz _ _ ⟨hc2, ?_⟩;clear hKz Kz;refine wpAnyH_done (by kernel_rfl) ?_ _;have P9 := P.put I (.slice a2 M.length c2);have lo2 := O2.lt;have O9 : FOwn ptEnc 11 109 w.heap.size ((w2.setCell ⟨p, 0, none⟩ (.int .i64 I)).setCell ⟨p, 1, none⟩ (.slice a2 M.length c2)) (.slice a2 M.length c2) M := (O2.base (by omega)).keep (fun g e => P.put1 I _ g (by have := lo2 g e; omega));have A9 := A.keep (P.put1 I (.slice a2 M.length c2) w.heap.size (by omega));have B9 : Below w.heap.size w ((w2.setCell ⟨p, 0, none⟩ (.int .i64 I)).setCell ⟨p, 1, none⟩ (.slice a2 M.length c2)) := (B3.setCell (p := ⟨p, 0, none⟩) (by show _ ≤ p; omega) _).setCell (p := ⟨p, 1, none⟩) (by show _ ≤ p; omega) _;have hne9 : ∀ g, (Value.slice a2 M.length c2).ownBlock = some g → g ≠ p ∧ g ≠ w.heap.size := fun g e => by have := lo2 g e; omega
   clear O O2 hne ln A k2 B3 lo2 P;go_wp2
   go_roundw
   case rel => exact ⟨k + 1, a2, c2, M, by omega, by go_num, hst2.out, P9, O9, hne9, A9, B9⟩
   case measure => simp [intOf]; omega
  obtain rfl : k = X.length := by omega
  rw [List.take_length] at hL;obtain rfl : D = L := hR.out.trans hL;have O9 : FOwn ptEnc 11 109 w.heap.size ((wr.setCell ⟨w.heap.size, 0, none⟩ (.int .i64 I)).setCell ⟨w.heap.size, 1, none⟩ (.slice a D.length c)) (.slice a D.length c) D := O.keep (fun g e => A.put1 I _ g (hne g e).2);have B9 : Below w.heap.size w ((wr.setCell ⟨w.heap.size, 0, none⟩ (.int .i64 I)).setCell ⟨w.heap.size, 1, none⟩ (.slice a D.length c)) := (B.setCell (p := ⟨w.heap.size, 0, none⟩) (Nat.le_refl _) _).setCell (p := ⟨w.heap.size, 1, none⟩) (Nat.le_refl _) _;obtain ⟨⟨p0, p1⟩, pf⟩ := P;obtain ⟨⟨z0, z1⟩, zf⟩ := A;have g0 := zf 0;have g1 := zf 1;clear pf zf hne O B hL hR;go_wp2
  refine bodyPost_ret (v := .agg #[.int .i64 I, .slice a D.length c]) (by simp [results, Tryz.results103, go_sem, *]) rfl ⟨a, c, rfl, O9, B9⟩
end Go.Proofs.YtnpiljegdiconaaGreat
namespace Go.Proofs.YtnpiljegdiconaaGreat
open Go.ChangeShapes Go.WideShapes Go.ChangeAt Go.RowKit
open Go.ChangeMaps (open_string shut_string)
set_option linter.unusedVariables false
set_option maxRecDepth 100000
end Go.Proofs.YtnpiljegdiconaaGreat
