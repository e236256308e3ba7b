/- Boxes and deeds, in plain words. -/
import Derived.Test.YtnpiljegdiconaaGreatRows
import Derived.WalkKit
import Derived.ProofKit
import Derived.OpenShut
import Derived.ShutString
import Derived.ChangeOld
import Derived.Below
import Derived.Deep.QuietTactic
import Derived.BigQuiet
import Derived.WalkSmall
import Derived.Laws.OwnMore
import Derived.WalkSpells
import Derived.WalkLawsBesides
import Derived.Test.YtnpiljegdiconaaGreatRg13
import Derived.Test.YtnpiljegdiconaaGreatBr9
import Derived.Test.YtnpiljegdiconaaGreatMd12
namespace Go.Proofs.YtnpiljegdiconaaGreat
open Go.ChangeShapes Go.WideShapes Go.ChangeAt Go.RowKit
open Go.ChangeMaps (open_string shut_string)
set_option linter.unusedVariables false
set_option maxRecDepth 100000

/-- Nothing that came. -/
def ikN : Ik := ⟨0, 0, 0, 0, 0, 0, 0, false⟩
def Mi.nil : Mi := ⟨false, 0, 0, [], 0, 0, 0⟩
/-- A wire, a box, a deed, as they stand in plain words. -/
structure Wi where
  fr : Int
  ak : Bool
  li : Int
  n : Int
  x : Ik
structure Bx where
  id : Int
  po : Int
  rg : Rg
  two : List Mi
  net : List Wi
  ga : List Bool
  ln : List Ik
  sd : List Ou
structure De where
  k : Int
  a : Int
  x : Ik
def inNil (x : Ik) : Bool := decide (x.k = 0 ∧ x.q = 0 ∧ x.r = 0 ∧ x.c = 0 ∧ x.b = 0 ∧ x.p = 0 ∧ x.h = 0 ∧ x.up = false)
def wiOk (w : Wi) : Bool := decide (0 ≤ w.fr ∧ w.fr ≤ 1) && (numB w.li && (numB w.n && (if w.ak then inNil w.x else inOk w.x)))
def mOf (x : Bx) (s : Int) : Mi := x.two.getD s.toNat Mi.nil
def bxOk (x : Bx) : Bool :=
  nOk x.id x.po && (rgOk x.rg && (decide (x.two.length = 2) && (miOk (mOf x 0) && (miOk (mOf x 1) && (x.net.all wiOk && (decide (x.net.length ≤ 20) && (decide ((x.ga.length : Int) = x.po) && (insB x.ln && decide (x.sd.length ≤ 40)))))))))
theorem bxOk_is {x : Bx} : bxOk x = true ↔ nOk x.id x.po = true ∧ rgOk x.rg = true ∧ x.two.length = 2 ∧ miOk (mOf x 0) = true ∧ miOk (mOf x 1) = true ∧ x.net.all wiOk = true ∧ x.net.length ≤ 20 ∧ (x.ga.length : Int) = x.po ∧ insB x.ln = true ∧ x.sd.length ≤ 40 := by
  unfold bxOk
  simp only [Bool.and_eq_true, decide_eq_true_eq]
def newBx (id po : Int) : Bx := ⟨id, po, ⟨1, 0, 0⟩, [⟨true, 1, 1, [], 0, 0, 0⟩, ⟨true, 2, 0, [], 0, 0, 0⟩], [], (newL id po).map Pt.op, [], []⟩
theorem newBx_ok {id po : Int} (h : nOk id po = true) : bxOk (newBx id po) = true := by
  refine bxOk_is.2 ⟨h, rfl, rfl, rfl, rfl, rfl, Nat.zero_le _, ?_, rfl, Nat.zero_le _⟩
  show (((newL id po).map Pt.op).length : Int) = po
  unfold newL
  rw [if_pos h]
  unfold nOk at h
  simp only [Bool.and_eq_true, decide_eq_true_eq] at h
  simp
  omega
def mindsX (x : Bx) (s : Int) : Bool := decide (0 ≤ s ∧ s < (x.two.length : Int)) && mindsB x.rg s (mOf x s)
def whoX (x : Bx) : Int := if mindsX x 0 then 0 else if mindsX x 1 then 1 else -1
def setM (x : Bx) (s : Int) (m : Mi) : Bx := ⟨x.id, x.po, x.rg, x.two.set s.toNat m, x.net, x.ga, x.ln, x.sd⟩
def setN (x : Bx) (N : List Wi) : Bx := ⟨x.id, x.po, x.rg, x.two, N, x.ga, x.ln, x.sd⟩
def setR (x : Bx) (r : Rg) : Bx := ⟨x.id, x.po, r, x.two, x.net, x.ga, x.ln, x.sd⟩
/-- A gate that turns, where there is one. -/
def gateX (G : List Bool) (o : Ou) : List Bool := if o.k = 2 ∧ 0 ≤ o.pt ∧ o.pt < (G.length : Int) then G.set o.pt.toNat o.on else G
theorem gateX_len (O : List Ou) : ∀ G : List Bool, (O.foldl gateX G).length = G.length := by
  induction O with
  | nil => intro G; rfl
  | cons o O ih =>
    intro G
    rw [List.foldl_cons, ih]
    unfold gateX
    split <;> simp
/-- The last forty. -/
def lastS (O : List Ou) : List Ou := O.drop (O.length - 40)
theorem lastS_len (O : List Ou) : (lastS O).length ≤ 40 := by unfold lastS; rw [List.length_drop]; omega
theorem lastS_app (O P : List Ou) : lastS (lastS O ++ P) = lastS (O ++ P) := by
  unfold lastS
  rw [List.length_append, List.length_append, List.length_drop, List.drop_append, List.drop_append, List.drop_drop, List.length_drop]
  congr 2 <;> omega
def accX (x : Bx) (s : Int) (O : List Ou) : Bx := if mindsX x s then ⟨x.id, x.po, x.rg, x.two, x.net, O.foldl gateX x.ga, x.ln, lastS (x.sd ++ O)⟩ else x
def inX (x : Bx) (d : De) : Bx × Int :=
  if whoX x < 0 ∨ inOk d.x = false ∨ x.po ≤ d.x.q then (x, 3)
  else if noteB (mOf x (whoX x)) d.x then (setM x (whoX x) (noteR (mOf x (whoX x)) d.x), 0) else (x, 4)
def shipN (x : Bx) (s : Int) : Int := if (mOf x s).al = (mOf x (1 - s)).li then (mOf x s).ac else 0
def shipX (x : Bx) (s : Int) : Bx × Int :=
  if mindsX x s = false ∨ ((mOf x s).lg.length : Int) ≤ shipN x s then (x, 3)
  else if 20 ≤ x.net.length then (x, 4)
  else (setN x (x.net ++ [⟨s, false, (mOf x (1 - s)).li, shipN x s, (mOf x s).lg.getD (shipN x s).toNat ikN⟩]), 0)
def ackM (m : Mi) (w : Wi) : Mi := ⟨m.up, m.li, m.ep, m.lg, m.sd, min w.n (m.lg.length : Int), w.li⟩
def hearN (x : Bx) (w : Wi) : Bx := if (mOf x (1 - w.fr)).ep = 0 ∧ w.n = ((mOf x (1 - w.fr)).lg.length : Int) then setM x (1 - w.fr) (noteR (mOf x (1 - w.fr)) w.x) else x
def heardX (x : Bx) (w : Wi) : Bx :=
  if (mOf x (1 - w.fr)).up = false then x
  else if w.ak then
    if mindsX x (1 - w.fr) = true ∧ ((mOf x (1 - w.fr)).al < w.li ∨ w.li = (mOf x (1 - w.fr)).al ∧ (mOf x (1 - w.fr)).ac < w.n) then setM x (1 - w.fr) (ackM (mOf x (1 - w.fr)) w) else x
  else if w.li ≠ (mOf x (1 - w.fr)).li then x
  else if x.net.length < 20 then setN (hearN x w) (x.net ++ [⟨1 - w.fr, true, (mOf x (1 - w.fr)).li, ((mOf (hearN x w) (1 - w.fr)).lg.length : Int), ikN⟩]) else hearN x w
def netX (x : Bx) (d : De) : Bx × Int :=
  if d.a < 0 ∨ (x.net.length : Int) ≤ d.a then (x, 2)
  else if d.k = 5 then
    if 20 ≤ x.net.length then (x, 4) else (setN x (x.net ++ [x.net.getD d.a.toNat ⟨0, false, 0, 0, ikN⟩]), 0)
  else if d.k = 3 then (heardX (setN x (x.net.take d.a.toNat ++ x.net.drop (d.a.toNat + 1))) (x.net.getD d.a.toNat ⟨0, false, 0, 0, ikN⟩), 0)
  else (setN x (x.net.take d.a.toNat ++ x.net.drop (d.a.toNat + 1)), 0)
def saidM (m : Mi) : Mi := ⟨m.up, m.li, m.ep, m.lg, m.sd + 1, m.ac, m.al⟩
def lineX (x : Bx) (n : Int) (y : Ik) : Bx := if (x.ln.length : Int) ≤ n then ⟨x.id, x.po, x.rg, x.two, x.net, x.ga, x.ln ++ [y], x.sd⟩ else x
def sayX (x : Bx) : Bx × Int :=
  if whoX x < 0 ∨ readyB (mOf x (whoX x)) x.rg.pa = false then (x, 3)
  else (setM (lineX (accX x (whoX x) (sayL (newI x.id x.po) (newL x.id x.po) (mOf x (whoX x)).lg ikN (mOf x (whoX x)).sd)) (mOf x (whoX x)).sd ((mOf x (whoX x)).lg.getD (mOf x (whoX x)).sd.toNat ikN)) (whoX x) (saidM (mOf x (whoX x))), 0)
def riseM (x : Bx) : Mi := ⟨true, max (mOf x 0).li (mOf x 1).li + 1, 0, [], 0, 0, 0⟩
def fallX (x : Bx) (d : De) : Bx × Int :=
  if d.k = 7 ∧ (mOf x d.a).up = true then (setM x d.a ⟨false, (mOf x d.a).li, 0, [], 0, 0, 0⟩, 0)
  else if (d.k = 8 ∧ (mOf x d.a).up = false) ∨ (d.k = 12 ∧ (mOf x d.a).up = true ∧ 0 < (mOf x d.a).ep ∧ mindsX x d.a = false) then (setM x d.a (riseM x), 0)
  else (x, 3)
def heirM (x : Bx) (m : Mi) : Mi := ⟨(takeM x.rg m).up, (takeM x.rg m).li, (takeM x.rg m).ep, (takeM x.rg m).lg, (x.ln.length : Int), (takeM x.rg m).ac, (takeM x.rg m).al⟩
def regX (x : Bx) (d : De) : Bx × Int :=
  if d.k = 9 then
    if takeB x.rg d.a (mOf x d.a) = false then (x, 3)
    else if (mOf x d.a).lg.length < x.ln.length then (x, 4)
    else (setM (setR x (takeN x.rg d.a)) d.a (heirM x (mOf x d.a)), 0)
  else if pairsB x.rg d.a (mOf x d.a) (if d.k = 10 then (mOf x d.a).al else 0) then (setR x (pairsR x.rg d.a (mOf x d.a) (if d.k = 10 then (mOf x d.a).al else 0)), 0)
  else (x, 3)
def oneX (x : Bx) (d : De) : Bx × Int :=
  if d.k = 1 then inX x d else if d.k = 6 then sayX x else if d.k = 3 ∨ d.k = 4 ∨ d.k = 5 then netX x d
  else if d.a < 0 ∨ 1 < d.a then (x, 2)
  else if d.k = 2 then shipX x d.a else if d.k = 7 ∨ d.k = 8 ∨ d.k = 12 then fallX x d else regX x d
/-- A deed that leaves the box right; else it stays. -/
def stepX (x : Bx) (d : De) : Bx := if (oneX x d).2 = 0 ∧ bxOk (oneX x d).1 = true then (oneX x d).1 else x
theorem stepX_ok {x : Bx} {d : De} (h : bxOk x = true) : bxOk (stepX x d) = true := by
  unfold stepX
  split
  · rename_i g; exact g.2
  · exact h

end Go.Proofs.YtnpiljegdiconaaGreat
