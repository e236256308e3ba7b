import Derived.Test.YtnpiljegdiconaaQKPort4s
import Derived.Test.YtnpiljegdiconaaQKVecDraw
import Derived.Test.YtnpiljegdiconaaQKBr5s
namespace Go.Proofs.Ytnpiljegdiconaa
open Go.ChangeShapes Go.WideShapes Go.ChangeAt Go.RowKit
open Go.ChangeMaps (open_string shut_string)
set_option linter.unusedVariables false
set_option maxRecDepth 100000
structure Mi where
 up : Bool
 li : Int
 ep : Int
 lg : List Ik
 sd : Int
 ac : Int
 al : Int
def numB (v : Int) : Bool := decide (0 ≤ v ∧ v ≤ 100000)
def insB (X : List Ik) : Bool := X.all inOk && decide (X.length ≤ 60)
def miOk (m : Mi) : Bool :=
 numB m.li && (numB m.ep && (numB m.al && (insB m.lg && (decide (0 ≤ m.sd ∧ m.sd ≤ (m.lg.length : Int)) && (decide (0 ≤ m.ac ∧ m.ac ≤ (m.lg.length : Int)) && (m.up || (decide (m.ep = 0) && (decide (m.lg.length = 0) && decide (m.al = 0)))))))))
def noteM (m : Mi) (x : Ik) : Mi := ⟨m.up, m.li, m.ep, m.lg ++ [x], m.sd, m.ac, m.al⟩
def noteB (m : Mi) (x : Ik) : Bool := m.up && miOk (noteM m x)
def noteR (m : Mi) (x : Ik) : Mi := if noteB m x then noteM m x else m
theorem note_not {m : Mi} {x : Ik} (h : noteB m x = false) : noteR m x = m := by unfold noteR; rw [h]; rfl
theorem note_log {m : Mi} {x : Ik} (h : noteB m x = true) : (noteR m x).lg = m.lg ++ [x] := by unfold noteR; rw [if_pos h]; rfl
theorem note_len {m : Mi} {x : Ik} (h : noteB m x = true) : (noteR m x).lg.length = m.lg.length + 1 := by rw [note_log h]; simp
theorem note_last {m : Mi} {x : Ik} (h : noteB m x = true) (d : Ik) : (noteR m x).lg.getD m.lg.length d = x := by rw [note_log h]; simp [List.getD]
theorem note_ok {m : Mi} {x : Ik} (h : noteB m x = true) : miOk (noteR m x) = true := by
 unfold noteR; rw [if_pos h]; unfold noteB at h; rw [Bool.and_eq_true] at h; exact h.2
def readyB (m : Mi) (p : Int) : Bool :=
 m.up && (decide (0 < m.ep) && (decide (m.sd < (m.lg.length : Int)) && (decide (p = 0) || (decide (m.al = p) && decide (m.sd < m.ac)))))
theorem ready_is {m : Mi} {p : Int} (h : readyB m p = true) : m.sd < (m.lg.length : Int) ∧ (p ≠ 0 → m.sd < m.ac) := by
 unfold readyB at h
 simp only [Bool.and_eq_true, Bool.or_eq_true, decide_eq_true_eq] at h
 refine ⟨h.2.2.1, fun hp => ?_⟩
 rcases h.2.2.2 with e | e
 ·
  exact absurd e hp
 ·
  exact e.2
structure Rg where
 ep : Int
 ow : Int
 pa : Int
def rgOk (r : Rg) : Bool := decide (1 ≤ r.ep ∧ r.ep ≤ 100000) && (decide (0 ≤ r.ow ∧ r.ow ≤ 1) && numB r.pa)
def mindsB (r : Rg) (s : Int) (m : Mi) : Bool := rgOk r && (miOk m && (m.up && (decide (s = r.ow) && decide (m.ep = r.ep))))
def takeG (r : Rg) (s : Int) (m : Mi) : Bool :=
 rgOk r && (miOk m && (m.up && (decide (0 ≤ s ∧ s ≤ 1) && (decide (s ≠ r.ow) && (decide (0 < m.li) && decide (m.li = r.pa))))))
def takeN (r : Rg) (s : Int) : Rg := ⟨r.ep + 1, s, 0⟩
def takeM (r : Rg) (m : Mi) : Mi := ⟨m.up, m.li, r.ep + 1, m.lg, m.sd, 0, 0⟩
def takeB (r : Rg) (s : Int) (m : Mi) : Bool := takeG r s m && (rgOk (takeN r s) && miOk (takeM r m))
def pairsB (r : Rg) (s : Int) (m : Mi) (p : Int) : Bool := mindsB r s m && (decide (p = 0) || (decide (p = m.al) && decide (m.ac = (m.lg.length : Int))))
def pairsR (r : Rg) (s : Int) (m : Mi) (p : Int) : Rg := if pairsB r s m p then ⟨r.ep, r.ow, p⟩ else r
theorem miOk_iff {m : Mi} : miOk m = true ↔ numB m.li = true ∧ numB m.ep = true ∧ numB m.al = true ∧ insB m.lg = true ∧ (0 ≤ m.sd ∧ m.sd ≤ (m.lg.length : Int)) ∧ (0 ≤ m.ac ∧ m.ac ≤ (m.lg.length : Int)) ∧ (m.up = true ∨ m.ep = 0 ∧ m.lg.length = 0 ∧ m.al = 0) := by
 unfold miOk
 simp only [Bool.and_eq_true, Bool.or_eq_true, decide_eq_true_eq]
theorem rgOk_is {r : Rg} : rgOk r = true ↔ (1 ≤ r.ep ∧ r.ep ≤ 100000) ∧ (0 ≤ r.ow ∧ r.ow ≤ 1) ∧ numB r.pa = true := by
 unfold rgOk
 simp only [Bool.and_eq_true, decide_eq_true_eq]
theorem pairs_not {r : Rg} {s : Int} {m : Mi} {p : Int} (h : pairsB r s m p = false) : pairsR r s m p = r := by unfold pairsR; rw [h]; rfl
def nOk (id n : Int) : Bool := decide (1 ≤ id ∧ id ≤ 9) && decide (1 ≤ n ∧ n ≤ 4)
theorem bOk_new {id : Int} {k : Nat} : bOk id (List.replicate k Pt.nil) = nOk id k := by
 unfold bOk nOk
 have e : (List.replicate k Pt.nil).all pOk = true := by
  rw [List.all_eq_true]; intro x hx; rw [List.eq_of_mem_replicate hx]; exact pOk_nil
 rw [e, List.length_replicate, Bool.and_true]
 congr 1
 exact decide_eq_decide.2 (by omega)
def newI (id n : Int) : Int := if nOk id n then id else 0
def newL (id n : Int) : List Pt := if nOk id n then List.replicate n.toNat Pt.nil else []
theorem FView.one (w : World) (t : TypeId) (x : Pt) : FView ptEnc (w.alloc (Obj.cells #[.bool x.up, .bool x.has, .int .i64 x.r, .int .i64 x.c, .int .i64 x.b, .int .i64 x.p, .int .i64 x.h, .int .i64 x.l, .int .i64 x.ro, .int .i64 x.wa, .bool x.op] t)) (some ⟨w.heap.size, 0, none⟩) [x] := by
 intro _
 refine ⟨w.heap.size, 0, rfl, fun j v hv => ?_⟩
 have hj : j < 11 := by
  have := (List.getElem?_eq_some_iff.1 hv).1
  simpa [fcells, ptEnc] using this
 rcases (by omega : j = 0 ∨ j = 1 ∨ j = 2 ∨ j = 3 ∨ j = 4 ∨ j = 5 ∨ j = 6 ∨ j = 7 ∨ j = 8 ∨ j = 9 ∨ j = 10) with rfl | rfl | rfl | rfl | rfl | rfl | rfl | rfl | rfl | rfl | rfl
 rotate_left
 rotate_left
 rotate_left
 rotate_left
 rotate_left
 rotate_left
 rotate_left
 rotate_left
 rotate_left
 rotate_left
 rotate_left
 all_goals
  cases hv; simp [go_sem]
theorem minS (a b : Int) (w : World) : Calls Try.prog 65 #[.int .i64 a, .int .i64 b] w fun e w' => e = .returned (.int .i64 (if a < b then a else b)) ∧ w' = w := by
 by_cases h : a < b
 ·
  rw [if_pos h]
  have d : decide (a < b) = true := decide_eq_true h
  clear h
  go_enter Try.func65, Try.ntmps65
  go_wp2
  go_ret
  exact ⟨rfl, rfl⟩
 ·
  rw [if_neg h]
  have d : decide (a < b) = false := decide_eq_false h
  clear h
  go_enter Try.func65, Try.ntmps65
  go_wp2
  go_ret
  exact ⟨rfl, rfl⟩
theorem react_not {id : Int} {L : List Pt} {x : Ik} (h : bOk id L = false) : reactL id L x = L ∧ reactO id L x = [] := by
 unfold reactL reactO goes
 simp [h]
def ofL (id : Int) (L : List Pt) (X : List Ik) : List Pt := X.foldl (reactL id) L
theorem ofL_app (id : Int) (L : List Pt) (X Y : List Ik) : ofL id L (X ++ Y) = ofL id (ofL id L X) Y := by
 unfold ofL; rw [List.foldl_append]
theorem ofL_len (id : Int) (X : List Ik) : ∀ L : List Pt, (ofL id L X).length = L.length := by
 induction X with
 | nil => intro L; rfl
 | cons x X ih => intro L; show (ofL id (reactL id L x) X).length = _; rw [ih, reactL_len]
theorem ofL_not {id : Int} (X : List Ik) : ∀ {L : List Pt}, bOk id L = false → ofL id L X = L := by
 induction X with
 | nil => intro L _; rfl
 | cons x X ih => intro L h; show ofL id (reactL id L x) X = L; rw [(react_not h).1]; exact ih h
theorem ofL_step (id : Int) (L : List Pt) (X : List Ik) (d : Ik) {k : Nat} (hk : k < X.length) : ofL id L (X.take (k + 1)) = reactL id (ofL id L (X.take k)) (X.getD k d) := by
 rw [List.take_add_one, ofL_app]
 have e : X[k]?.toList = [X.getD k d] := by simp [List.getD, hk]
 rw [e]; rfl
def sayL (id : Int) (L : List Pt) (X : List Ik) (d : Ik) (n : Int) : List Ou :=
 if 0 ≤ n ∧ n < (X.length : Int) then reactO id (ofL id L (X.take n.toNat)) (X.getD n.toNat d) else []
theorem sayL_at (id : Int) (L : List Pt) (X : List Ik) (d : Ik) {k : Nat} (hk : k < X.length) : sayL id L X d (k : Int) = reactO id (ofL id L (X.take k)) (X.getD k d) := by
 unfold sayL; rw [if_pos ⟨by omega, by omega⟩]; simp
def ikN : Ik := ⟨0, 0, 0, 0, 0, 0, 0, false⟩
def Mi.nil : Mi := ⟨false, 0, 0, [], 0, 0, 0⟩
structure Wi where
 fr : Int
 ak : Bool
 li : Int
 n : Int
 x : Ik
structure Bx where
 id : Int
 po : Int
 rg : Rg
 two : List Mi
 net : List Wi
 ga : List Bool
 ln : List Ik
 sd : List Ou
structure De where
 k : Int
 a : Int
 x : Ik
def inNil (x : Ik) : Bool := decide (x.k = 0 ∧ x.q = 0 ∧ x.r = 0 ∧ x.c = 0 ∧ x.b = 0 ∧ x.p = 0 ∧ x.h = 0 ∧ x.up = false)
def wiOk (w : Wi) : Bool := decide (0 ≤ w.fr ∧ w.fr ≤ 1) && (numB w.li && (numB w.n && (if w.ak then inNil w.x else inOk w.x)))
def mOf (x : Bx) (s : Int) : Mi := x.two.getD s.toNat Mi.nil
def bxOk (x : Bx) : Bool :=
 nOk x.id x.po && (rgOk x.rg && (decide (x.two.length = 2) && (miOk (mOf x 0) && (miOk (mOf x 1) && (x.net.all wiOk && (decide (x.net.length ≤ 20) && (decide ((x.ga.length : Int) = x.po) && (insB x.ln && decide (x.sd.length ≤ 40)))))))))
theorem bxOk_is {x : Bx} : bxOk x = true ↔ nOk x.id x.po = true ∧ rgOk x.rg = true ∧ x.two.length = 2 ∧ miOk (mOf x 0) = true ∧ miOk (mOf x 1) = true ∧ x.net.all wiOk = true ∧ x.net.length ≤ 20 ∧ (x.ga.length : Int) = x.po ∧ insB x.ln = true ∧ x.sd.length ≤ 40 := by
 unfold bxOk
 simp only [Bool.and_eq_true, decide_eq_true_eq]
def newBx (id po : Int) : Bx := ⟨id, po, ⟨1, 0, 0⟩, [⟨true, 1, 1, [], 0, 0, 0⟩, ⟨true, 2, 0, [], 0, 0, 0⟩], [], (newL id po).map Pt.op, [], []⟩
theorem newBx_ok {id po : Int} (h : nOk id po = true) : bxOk (newBx id po) = true := by
 refine bxOk_is.2 ⟨h, rfl, rfl, rfl, rfl, rfl, Nat.zero_le _, ?_, rfl, Nat.zero_le _⟩
 show (((newL id po).map Pt.op).length : Int) = po
 unfold newL
 rw [if_pos h]
 unfold nOk at h
 simp only [Bool.and_eq_true, decide_eq_true_eq] at h
 simp
 omega
def mindsX (x : Bx) (s : Int) : Bool := decide (0 ≤ s ∧ s < (x.two.length : Int)) && mindsB x.rg s (mOf x s)
def whoX (x : Bx) : Int := if mindsX x 0 then 0 else if mindsX x 1 then 1 else -1
def setM (x : Bx) (s : Int) (m : Mi) : Bx := ⟨x.id, x.po, x.rg, x.two.set s.toNat m, x.net, x.ga, x.ln, x.sd⟩
def setN (x : Bx) (N : List Wi) : Bx := ⟨x.id, x.po, x.rg, x.two, N, x.ga, x.ln, x.sd⟩
def setR (x : Bx) (r : Rg) : Bx := ⟨x.id, x.po, r, x.two, x.net, x.ga, x.ln, x.sd⟩
def gateX (G : List Bool) (o : Ou) : List Bool := if o.k = 2 ∧ 0 ≤ o.pt ∧ o.pt < (G.length : Int) then G.set o.pt.toNat o.on else G
theorem gateX_len (O : List Ou) : ∀ G : List Bool, (O.foldl gateX G).length = G.length := by
 induction O with
 | nil => intro G; rfl
 | cons o O ih =>
  intro G
  rw [List.foldl_cons, ih]
  unfold gateX
  split <;> simp
def lastS (O : List Ou) : List Ou := O.drop (O.length - 40)
theorem lastS_len (O : List Ou) : (lastS O).length ≤ 40 := by unfold lastS; rw [List.length_drop]; omega
def accX (x : Bx) (s : Int) (O : List Ou) : Bx := if mindsX x s then ⟨x.id, x.po, x.rg, x.two, x.net, O.foldl gateX x.ga, x.ln, lastS (x.sd ++ O)⟩ else x
def inX (x : Bx) (d : De) : Bx × Int :=
 if whoX x < 0 ∨ inOk d.x = false ∨ x.po ≤ d.x.q then (x, 3)
 else if noteB (mOf x (whoX x)) d.x then (setM x (whoX x) (noteR (mOf x (whoX x)) d.x), 0) else (x, 4)
def shipN (x : Bx) (s : Int) : Int := if (mOf x s).al = (mOf x (1 - s)).li then (mOf x s).ac else 0
def shipX (x : Bx) (s : Int) : Bx × Int :=
 if mindsX x s = false ∨ ((mOf x s).lg.length : Int) ≤ shipN x s then (x, 3)
 else if 20 ≤ x.net.length then (x, 4)
 else (setN x (x.net ++ [⟨s, false, (mOf x (1 - s)).li, shipN x s, (mOf x s).lg.getD (shipN x s).toNat ikN⟩]), 0)
def ackM (m : Mi) (w : Wi) : Mi := ⟨m.up, m.li, m.ep, m.lg, m.sd, min w.n (m.lg.length : Int), w.li⟩
def hearN (x : Bx) (w : Wi) : Bx := if (mOf x (1 - w.fr)).ep = 0 ∧ w.n = ((mOf x (1 - w.fr)).lg.length : Int) then setM x (1 - w.fr) (noteR (mOf x (1 - w.fr)) w.x) else x
def heardX (x : Bx) (w : Wi) : Bx :=
 if (mOf x (1 - w.fr)).up = false then x
 else if w.ak then
  if mindsX x (1 - w.fr) = true ∧ ((mOf x (1 - w.fr)).al < w.li ∨ w.li = (mOf x (1 - w.fr)).al ∧ (mOf x (1 - w.fr)).ac < w.n) then setM x (1 - w.fr) (ackM (mOf x (1 - w.fr)) w) else x
 else if w.li ≠ (mOf x (1 - w.fr)).li then x
 else if x.net.length < 20 then setN (hearN x w) (x.net ++ [⟨1 - w.fr, true, (mOf x (1 - w.fr)).li, ((mOf (hearN x w) (1 - w.fr)).lg.length : Int), ikN⟩]) else hearN x w
def netX (x : Bx) (d : De) : Bx × Int :=
 if d.a < 0 ∨ (x.net.length : Int) ≤ d.a then (x, 2)
 else if d.k = 5 then
  if 20 ≤ x.net.length then (x, 4) else (setN x (x.net ++ [x.net.getD d.a.toNat ⟨0, false, 0, 0, ikN⟩]), 0)
 else if d.k = 3 then (heardX (setN x (x.net.take d.a.toNat ++ x.net.drop (d.a.toNat + 1))) (x.net.getD d.a.toNat ⟨0, false, 0, 0, ikN⟩), 0)
 else (setN x (x.net.take d.a.toNat ++ x.net.drop (d.a.toNat + 1)), 0)
def saidM (m : Mi) : Mi := ⟨m.up, m.li, m.ep, m.lg, m.sd + 1, m.ac, m.al⟩
def lineX (x : Bx) (n : Int) (y : Ik) : Bx := if (x.ln.length : Int) ≤ n then ⟨x.id, x.po, x.rg, x.two, x.net, x.ga, x.ln ++ [y], x.sd⟩ else x
def sayX (x : Bx) : Bx × Int :=
 if whoX x < 0 ∨ readyB (mOf x (whoX x)) x.rg.pa = false then (x, 3)
 else (setM (lineX (accX x (whoX x) (sayL (newI x.id x.po) (newL x.id x.po) (mOf x (whoX x)).lg ikN (mOf x (whoX x)).sd)) (mOf x (whoX x)).sd ((mOf x (whoX x)).lg.getD (mOf x (whoX x)).sd.toNat ikN)) (whoX x) (saidM (mOf x (whoX x))), 0)
def riseM (x : Bx) : Mi := ⟨true, max (mOf x 0).li (mOf x 1).li + 1, 0, [], 0, 0, 0⟩
def fallX (x : Bx) (d : De) : Bx × Int :=
 if d.k = 7 ∧ (mOf x d.a).up = true then (setM x d.a ⟨false, (mOf x d.a).li, 0, [], 0, 0, 0⟩, 0)
 else if (d.k = 8 ∧ (mOf x d.a).up = false) ∨ (d.k = 12 ∧ (mOf x d.a).up = true ∧ 0 < (mOf x d.a).ep ∧ mindsX x d.a = false) then (setM x d.a (riseM x), 0)
 else (x, 3)
def heirM (x : Bx) (m : Mi) : Mi := ⟨(takeM x.rg m).up, (takeM x.rg m).li, (takeM x.rg m).ep, (takeM x.rg m).lg, (x.ln.length : Int), (takeM x.rg m).ac, (takeM x.rg m).al⟩
def regX (x : Bx) (d : De) : Bx × Int :=
 if d.k = 9 then
  if takeB x.rg d.a (mOf x d.a) = false then (x, 3)
  else if (mOf x d.a).lg.length < x.ln.length then (x, 4)
  else (setM (setR x (takeN x.rg d.a)) d.a (heirM x (mOf x d.a)), 0)
 else if pairsB x.rg d.a (mOf x d.a) (if d.k = 10 then (mOf x d.a).al else 0) then (setR x (pairsR x.rg d.a (mOf x d.a) (if d.k = 10 then (mOf x d.a).al else 0)), 0)
 else (x, 3)
def oneX (x : Bx) (d : De) : Bx × Int :=
 if d.k = 1 then inX x d else if d.k = 6 then sayX x else if d.k = 3 ∨ d.k = 4 ∨ d.k = 5 then netX x d
 else if d.a < 0 ∨ 1 < d.a then (x, 2)
 else if d.k = 2 then shipX x d.a else if d.k = 7 ∨ d.k = 8 ∨ d.k = 12 then fallX x d else regX x d
end Go.Proofs.Ytnpiljegdiconaa
namespace Go.Proofs.Ytnpiljegdiconaa
open Go.ChangeShapes Go.WideShapes Go.ChangeAt Go.RowKit
open Go.ChangeMaps (open_string shut_string)
set_option linter.unusedVariables false
set_option maxRecDepth 100000
set_option maxHeartbeats 4000000 in
theorem ownS (id : Int) (ad : Option Addr) (cap : Nat) (L : List Pt) (port : Int) (w : World) (hv : FView ptEnc w ad L) (hl : L.length ≤ 1048576) :
  Calls Try.prog 81 #[.agg #[.int .i64 id, .slice ad L.length cap], .int .i64 port] w fun e w' => e = .returned (.agg #[.int .i64 (ownR id L port).1, .int .i64 (ownR id L port).2.1, .int .i64 (ownR id L port).2.2.1, .int .i64 (ownR id L port).2.2.2]) ∧ Below w.heap.size w w' := by
 have hB := hv.lt ptEnc_len (by omega)
 obtain ⟨y, hy⟩ := mk_ ((w.alloc (Obj.cells #[.int .i64 id, .slice ad L.length cap] 110)).alloc (Obj.cells #[.int .i64 0, .int .i64 0, .int .i64 0, .int .i64 0] 28))
 have B0 : Below w.heap.size w y := by rw [hy]; exact ((Below.refl _ _).alloc (Nat.le_refl _) _).alloc (by simp) _
 have A0 : BrAt y w.heap.size id (.slice ad L.length cap) := by rw [hy]; constructor <;> simp [go_sem]
 have V0 : VBox y (w.heap.size + 1) 0 0 0 0 := by rw [hy]; refine ⟨?_, fun i => ?_⟩; (refine ⟨?_, ?_, ?_, ?_⟩ <;> simp [go_sem]); simp [go_sem]
 have S0 : w.heap.size + 1 < y.heap.size := V0.lt
 have hv1 := hv.below B0 hB
 have hB1 := hv1.lt ptEnc_len (by omega)
 obtain ⟨Y, hY⟩ := mk_ (ownR id L port)
 rw [← hY]
 replace hY : Hid _ := hY
 go_enter Try.func81, Try.ntmps81
 go_wp2_with fail
 go_at_call 66
 rw [← hy]
 clear hy hv hB
 refine (bOkS id ad cap L y hv1 hl).mono ?_
 rintro e w1 ⟨rfl, k1⟩
 have B1 : Below w.heap.size w w1 := B0.trans (k1.mono B0.size)
 have A1 := A0.below k1 (by omega)
 have V1 := V0.below k1 (by omega)
 have S1 : w.heap.size + 1 < w1.heap.size := V1.lt
 have hv2 := hv1.below k1 hB1
 have hB2 := hv2.lt ptEnc_len (by omega)
 clear A0 V0 hv1 hB1 k1 B0 S0
 cases hb : bOk id L with
 | false =>
  have hN : Hid (Y = (0, 0, 0, 0)) := by unfold Hid; rw [hY.out]; unfold ownR; rw [hb]; rfl
  clear hY
  obtain ⟨⟨t0, t1, t2, t3⟩, tf⟩ := V1
  have BZ := B1.setCell (p := ⟨w.heap.size + 1, 0, none⟩) (by show _ ≤ w.heap.size + 1; omega) (.int .i64 0)
  have BZ := BZ.setCell (p := ⟨w.heap.size + 1, 1, none⟩) (by show _ ≤ w.heap.size + 1; omega) (.int .i64 0)
  have BZ := BZ.setCell (p := ⟨w.heap.size + 1, 2, none⟩) (by show _ ≤ w.heap.size + 1; omega) (.int .i64 0)
  have BZ := BZ.setCell (p := ⟨w.heap.size + 1, 3, none⟩) (by show _ ≤ w.heap.size + 1; omega) (.int .i64 0)
  go_wp2
  refine bodyPost_ret (v := .agg #[.int .i64 0, .int .i64 0, .int .i64 0, .int .i64 0]) (by simp [results, Try.results81, go_sem, *]) rfl ⟨by rw [hN.out], BZ⟩
 | true =>
  have hlen := (bOk_all hb).2.1
  by_cases hp : 0 ≤ port ∧ port < (L.length : Int)
  rotate_left
  ·
   have hN : Hid (Y = (0, 0, 0, 0)) := by unfold Hid; rw [hY.out]; unfold ownR; rw [hb, decide_eq_false hp]; rfl
   have dp : decide (0 ≤ port ∧ port < (L.length : Int)) = false := decide_eq_false hp
   clear hY
   obtain ⟨a0, a1⟩ := A1
   replace hp : Hid _ := hp
   have es : decide (0 ≤ port ∧ port ≤ (L.length : Int) - 1) = decide (0 ≤ port ∧ port < (L.length : Int)) := decide_eq_decide.2 (by omega)
   go_wp2_with fail
   go_at_call 26
   refine (inB port 0 ((L.length : Int) - 1) w1).mono ?_
   rintro e w2 ⟨rfl, hw2⟩
   have kp : Below w1.heap.size w1 w2 := by rw [hw2]; exact Below.refl _ _
   rw [es]
   clear es hw2
   rw [dp]
   have B2 := B1.trans (kp.mono B1.size)
   have V2 := V1.below kp S1
   clear dp
   obtain ⟨⟨t0, t1, t2, t3⟩, tf⟩ := V2
   have BZ := B2.setCell (p := ⟨w.heap.size + 1, 0, none⟩) (by show _ ≤ w.heap.size + 1; omega) (.int .i64 0)
   have BZ := BZ.setCell (p := ⟨w.heap.size + 1, 1, none⟩) (by show _ ≤ w.heap.size + 1; omega) (.int .i64 0)
   have BZ := BZ.setCell (p := ⟨w.heap.size + 1, 2, none⟩) (by show _ ≤ w.heap.size + 1; omega) (.int .i64 0)
   have BZ := BZ.setCell (p := ⟨w.heap.size + 1, 3, none⟩) (by show _ ≤ w.heap.size + 1; omega) (.int .i64 0)
   go_wp2
   refine bodyPost_ret (v := .agg #[.int .i64 0, .int .i64 0, .int .i64 0, .int .i64 0]) (by simp [results, Try.results81, go_sem, *]) rfl ⟨by rw [hN.out], BZ⟩
  have dp : decide (0 ≤ port ∧ port < (L.length : Int)) = true := decide_eq_true hp
  have hN : Hid (Y = match rootO id L with
   | none => (id, 0, id, port)
   | some k => ((L.getD k Pt.nil).r, (L.getD k Pt.nil).c + 1, id, port)) := by unfold Hid; rw [hY.out]; unfold ownR; rw [hb, dp]; rfl
  clear hY
  replace hp : Hid _ := hp
  obtain ⟨a0, a1⟩ := A1
  have es : decide (0 ≤ port ∧ port ≤ (L.length : Int) - 1) = decide (0 ≤ port ∧ port < (L.length : Int)) := decide_eq_decide.2 (by omega)
  go_wp2_with fail
  go_at_call 26
  refine (inB port 0 ((L.length : Int) - 1) w1).mono ?_
  rintro e w2 ⟨rfl, hw2⟩
  have kp : Below w1.heap.size w1 w2 := by rw [hw2]; exact Below.refl _ _
  rw [es]
  clear es hw2
  rw [dp]
  have B2 := B1.trans (kp.mono B1.size)
  have A2 := BrAt.below ⟨a0, a1⟩ kp (by omega)
  have V2 := V1.below kp S1
  have S2 : w.heap.size + 1 < w2.heap.size := V2.lt
  have hv3 := hv2.below kp hB2
  have hB3 := hv3.lt ptEnc_len (by omega)
  clear dp a0 a1 kp V1 hv2 hB2 B1
  obtain ⟨a0, a1⟩ := A2
  go_wp2_with fail
  go_at_call 86
  refine (rootPS id ad cap L w2 hv3 hl).mono ?_
  rintro e w3 ⟨rfl, k3⟩
  have B3 := B2.trans (k3.mono B2.size)
  have A3 := BrAt.below ⟨a0, a1⟩ k3 (by omega)
  have V3 := V2.below k3 S2
  have S3 : w.heap.size + 1 < w3.heap.size := V3.lt
  have hv4 := hv3.below k3 hB3
  clear a0 a1 k3 V2 hv3 hB3 B2
  obtain ⟨a0, a1⟩ := A3
  obtain ⟨⟨t0, t1, t2, t3⟩, tf⟩ := V3
  cases hr : rootO id L with
  | none =>
   have hN2 : Hid (Y = (id, 0, id, port)) := by unfold Hid; rw [hN.out, hr]
   clear hN
   have BZ := B3.setCell (p := ⟨w.heap.size + 1, 0, none⟩) (by show _ ≤ w.heap.size + 1; omega) (.int .i64 id)
   have BZ := BZ.setCell (p := ⟨w.heap.size + 1, 1, none⟩) (by show _ ≤ w.heap.size + 1; omega) (.int .i64 0)
   have BZ := BZ.setCell (p := ⟨w.heap.size + 1, 2, none⟩) (by show _ ≤ w.heap.size + 1; omega) (.int .i64 id)
   have BZ := BZ.setCell (p := ⟨w.heap.size + 1, 3, none⟩) (by show _ ≤ w.heap.size + 1; omega) (.int .i64 port)
   simp only [oI, Option.isSome]
   go_wp2
   refine bodyPost_ret (v := .agg #[.int .i64 id, .int .i64 0, .int .i64 id, .int .i64 port]) (by simp [results, Try.results81, go_sem, *]) rfl ⟨by rw [hN2.out], BZ⟩
  | some k =>
   obtain ⟨_, hk, hcd⟩ := rootO_some hr
   obtain ⟨g, hg⟩ : ∃ g, L.getD k Pt.nil = g := ⟨_, rfl⟩
   have hN2 : Hid (Y = (g.r, g.c + 1, id, port)) := by unfold Hid; rw [hN.out, hr, ← hg]
   have hc20 : g.c < 20 := by
    rw [hg] at hcd
    simp only [cand, Bool.and_eq_true, decide_eq_true_eq] at hcd
    exact hcd.2.2.2.1
   have hc0 : 0 ≤ g.c := by
    rw [hg] at hcd
    simp only [cand, Bool.and_eq_true, decide_eq_true_eq] at hcd
    have h1 := (bOk_all hb).2.2 k
    rw [hg] at h1
    have h2 := (pOk_has h1 hcd.1).2.1
    simp only [vOk, decide_eq_true_eq] at h2
    omega
   obtain ⟨bk, off, rfl, _⟩ := hv4 (by omega)
   obtain ⟨c0, c1, c2, c3, c4, c5, c6, c7, c8, c9, c10⟩ : PtAtO w3 bk (off + k * 11) g := by rw [← hg]; exact ptAtO_of (hv4.at_ ptEnc_len Pt.nil hk)
   clear hN hg hcd hr hv4
   obtain ⟨y4, hy4⟩ := mk_ (w3.alloc (Obj.cells #[.int .i64 g.r, .int .i64 g.c, .int .i64 g.b, .int .i64 g.p] 28))
   have kn : Below w3.heap.size w3 y4 := by rw [hy4]; exact below_new _
   have G4 : VecAt y4 w3.heap.size g.r g.c g.b g.p := by rw [hy4]; exact vecAt_box w3 _ _ _ _ _
   have A4 := BrAt.below ⟨a0, a1⟩ kn (by omega)
   have V4 := VBox.below ⟨⟨t0, t1, t2, t3⟩, tf⟩ kn (by omega)
   have B4 := B3.trans (kn.mono B3.size)
   simp only [oI, Option.isSome]
   go_upto_region 7 with fail
   rw [← hy4]
   clear hy4 a0 a1 t0 t1 t2 t3 tf kn c0 c1 c2 c3 c4 c5 c6 c7 c8 c9 c10
   generalize w3.heap.size = Q at S3 G4 ⊢
   obtain ⟨a0, a1⟩ := A4
   obtain ⟨⟨t0, t1, t2, t3⟩, tf⟩ := V4
   obtain ⟨g0, g1, g2, g3⟩ := G4
   have BZ := B4.setCell (p := ⟨w.heap.size + 1, 0, none⟩) (by show _ ≤ w.heap.size + 1; omega) (.int .i64 g.r)
   have BZ := BZ.setCell (p := ⟨w.heap.size + 1, 1, none⟩) (by show _ ≤ w.heap.size + 1; omega) (.int .i64 (g.c + 1))
   have BZ := BZ.setCell (p := ⟨w.heap.size + 1, 2, none⟩) (by show _ ≤ w.heap.size + 1; omega) (.int .i64 id)
   have BZ := BZ.setCell (p := ⟨w.heap.size + 1, 3, none⟩) (by show _ ≤ w.heap.size + 1; omega) (.int .i64 port)
   go_wp2
   refine bodyPost_ret (v := .agg #[.int .i64 g.r, .int .i64 (g.c + 1), .int .i64 id, .int .i64 port]) (by simp [results, Try.results81, go_sem, *]) rfl ⟨by rw [hN2.out], BZ⟩
set_option maxHeartbeats 2000000 in
theorem hopsS (id : Int) (ad : Option Addr) (cap : Nat) (L : List Pt) (w : World) (hv : FView ptEnc w ad L) (hl : L.length ≤ 1048576) :
  Calls Try.prog 82 #[.agg #[.int .i64 id, .slice ad L.length cap]] w fun e w' => e = .returned (.int .i64 (hopsR id L)) ∧ Below w.heap.size w w' := by
 have hB := hv.lt ptEnc_len (by omega)
 obtain ⟨y, hy⟩ := mk_ (w.alloc (Obj.cells #[.int .i64 id, .slice ad L.length cap] 110))
 have B0 : Below w.heap.size w y := by rw [hy]; exact below_new _
 have A0 : BrAt y w.heap.size id (.slice ad L.length cap) := by rw [hy]; exact BrAt.new w _ _ _
 have S0 := A0.lt
 have hv1 := hv.below B0 hB
 have hB1 := hv1.lt ptEnc_len (by omega)
 obtain ⟨Y, hY⟩ := mk_ (hopsR id L)
 rw [← hY]
 replace hY : Hid _ := hY
 go_enter Try.func82, Try.ntmps82
 go_wp2_with fail
 go_at_call 86
 rw [← hy]
 clear hy hv hB
 refine (rootPS id ad cap L y hv1 hl).mono ?_
 rintro e w3 ⟨rfl, k3⟩
 have B3 := B0.trans (k3.mono B0.size)
 obtain ⟨a0, a1⟩ := A0.below k3 (by omega)
 have hv4 := hv1.below k3 hB1
 clear k3 hv1 hB1 A0
 cases hr : rootO id L with
 | none =>
  have hN2 : Hid (Y = 0) := by unfold Hid; rw [hY.out]; unfold hopsR; rw [hr]
  simp only [oI, Option.isSome]
  go_wp2
  go_ret
  exact ⟨by rw [hN2.out]; rfl, B3⟩
 | some k =>
  obtain ⟨hb, hk, hcd⟩ := rootO_some hr
  obtain ⟨g, hg⟩ : ∃ g, L.getD k Pt.nil = g := ⟨_, rfl⟩
  have hN2 : Hid (Y = g.h + 1) := by unfold Hid; rw [hY.out]; unfold hopsR; rw [hr, ← hg]
  have hlen := (bOk_all hb).2.1
  have hh8 : 0 ≤ g.h ∧ g.h < 8 := by
   rw [hg] at hcd
   simp only [cand, Bool.and_eq_true, decide_eq_true_eq] at hcd
   have h1 := (bOk_all hb).2.2 k
   rw [hg] at h1
   exact ⟨(pOk_has h1 hcd.1).2.2.1, hcd.2.2.2.2⟩
  obtain ⟨h0, h8⟩ := hh8
  obtain ⟨bk, off, rfl, _⟩ := hv4 (by omega)
  obtain ⟨c0, c1, c2, c3, c4, c5, c6, c7, c8, c9, c10⟩ : PtAtO w3 bk (off + k * 11) g := by rw [← hg]; exact ptAtO_of (hv4.at_ ptEnc_len Pt.nil hk)
  clear hY hg hcd hr hv4 hb
  simp only [oI, Option.isSome]
  go_wp2
  go_ret
  exact ⟨by rw [hN2.out]; rfl, B3⟩
end Go.Proofs.Ytnpiljegdiconaa
