import Derived.Test.YtnpiljegdiconaaGreatQM12
namespace Go.Proofs.YtnpiljegdiconaaGreat
open Go.ChangeShapes Go.WideShapes Go.ChangeAt Go.RowKit
open Go.ChangeMaps (open_string shut_string)
set_option linter.unusedVariables false
set_option maxRecDepth 100000
structure Rg where
 ep : Int
 ow : Int
 pa : Int
def rgOk (r : Rg) : Bool := decide (1 ≤ r.ep ∧ r.ep ≤ 100000) && (decide (0 ≤ r.ow ∧ r.ow ≤ 1) && numB r.pa)
def mindsB (r : Rg) (s : Int) (m : Mi) : Bool := rgOk r && (miOk m && (m.up && (decide (s = r.ow) && decide (m.ep = r.ep))))
theorem minds_is {r : Rg} {s : Int} {m : Mi} : mindsB r s m = true ↔ rgOk r = true ∧ miOk m = true ∧ m.up = true ∧ s = r.ow ∧ m.ep = r.ep := by
 unfold mindsB;simp only [Bool.and_eq_true, decide_eq_true_eq]
theorem minds_one {r : Rg} {s : Int} {m n : Mi} (h : mindsB r s m = true) : mindsB r (1 - s) n = false := by
 have h1 := (minds_is.1 h).2.2.2.1;cases e : mindsB r (1 - s) n with
 | false => rfl
 | true =>
  have h2 := (minds_is.1 e).2.2.2.1;omega
def takeG (r : Rg) (s : Int) (m : Mi) : Bool :=
 rgOk r && (miOk m && (m.up && (decide (0 ≤ s ∧ s ≤ 1) && (decide (s ≠ r.ow) && (decide (0 < m.li) && decide (m.li = r.pa))))))
def takeN (r : Rg) (s : Int) : Rg := ⟨r.ep + 1, s, 0⟩
def takeM (r : Rg) (m : Mi) : Mi := ⟨m.up, m.li, r.ep + 1, m.lg, m.sd, 0, 0⟩
def takeB (r : Rg) (s : Int) (m : Mi) : Bool := takeG r s m && (rgOk (takeN r s) && miOk (takeM r m))
theorem takeG_is {r : Rg} {s : Int} {m : Mi} : takeG r s m = true ↔ rgOk r = true ∧ miOk m = true ∧ m.up = true ∧ (0 ≤ s ∧ s ≤ 1) ∧ s ≠ r.ow ∧ 0 < m.li ∧ m.li = r.pa := by
 unfold takeG;simp only [Bool.and_eq_true, decide_eq_true_eq]
theorem take_minds {r : Rg} {s : Int} {m : Mi} (h : takeB r s m = true) : mindsB (takeN r s) s (takeM r m) = true := by
 unfold takeB at h;rw [Bool.and_eq_true, Bool.and_eq_true] at h;exact minds_is.2 ⟨h.2.1, h.2.2, (takeG_is.1 h.1).2.2.1, rfl, rfl⟩
def pairsB (r : Rg) (s : Int) (m : Mi) (p : Int) : Bool := mindsB r s m && (decide (p = 0) || (decide (p = m.al) && decide (m.ac = (m.lg.length : Int))))
def pairsR (r : Rg) (s : Int) (m : Mi) (p : Int) : Rg := if pairsB r s m p then ⟨r.ep, r.ow, p⟩ else r
theorem miOk_iff {m : Mi} : miOk m = true ↔ numB m.li = true ∧ numB m.ep = true ∧ numB m.al = true ∧ insB m.lg = true ∧ (0 ≤ m.sd ∧ m.sd ≤ (m.lg.length : Int)) ∧ (0 ≤ m.ac ∧ m.ac ≤ (m.lg.length : Int)) ∧ (m.up = true ∨ m.ep = 0 ∧ m.lg.length = 0 ∧ m.al = 0) := by
 unfold miOk;simp only [Bool.and_eq_true, Bool.or_eq_true, decide_eq_true_eq]
theorem rgOk_is {r : Rg} : rgOk r = true ↔ (1 ≤ r.ep ∧ r.ep ≤ 100000) ∧ (0 ≤ r.ow ∧ r.ow ≤ 1) ∧ numB r.pa = true := by
 unfold rgOk;simp only [Bool.and_eq_true, decide_eq_true_eq]
theorem pairs_minds {r : Rg} {s : Int} {m : Mi} {p : Int} (h : pairsB r s m p = true) : mindsB (pairsR r s m p) s m = true ∧ (pairsR r s m p).pa = p := by
 unfold pairsR;rw [if_pos h];refine ⟨?_, rfl⟩;unfold pairsB at h;simp only [Bool.and_eq_true, Bool.or_eq_true, decide_eq_true_eq] at h;obtain ⟨h1, h2⟩ := h;obtain ⟨a, b, c, d, e⟩ := minds_is.1 h1;obtain ⟨a1, a2, _⟩ := rgOk_is.1 a;refine minds_is.2 ⟨rgOk_is.2 ⟨a1, a2, ?_⟩, b, c, d, e⟩;show numB p = true;rcases h2 with z | ⟨z, _⟩
 ·
  rw [z]; decide
 rw [z]; exact (miOk_iff.1 b).2.2.1
theorem pairs_not {r : Rg} {s : Int} {m : Mi} {p : Int} (h : pairsB r s m p = false) : pairsR r s m p = r := by unfold pairsR; rw [h]; rfl
def ikN : Ik := ⟨0, 0, 0, 0, 0, 0, 0, false⟩
def Mi.nil : Mi := ⟨false, 0, 0, [], 0, 0, 0⟩
structure Wi where
 fr : Int
 ak : Bool
 li : Int
 n : Int
 x : Ik
structure Bx where
 id : Int
 po : Int
 rg : Rg
 two : List Mi
 net : List Wi
 ga : List Bool
 ln : List Ik
 sd : List Ou
structure De where
 k : Int
 a : Int
 x : Ik
def inNil (x : Ik) : Bool := decide (x.k = 0 ∧ x.q = 0 ∧ x.r = 0 ∧ x.c = 0 ∧ x.b = 0 ∧ x.p = 0 ∧ x.h = 0 ∧ x.up = false)
def wiOk (w : Wi) : Bool := decide (0 ≤ w.fr ∧ w.fr ≤ 1) && (numB w.li && (numB w.n && (if w.ak then inNil w.x else inOk w.x)))
def mOf (x : Bx) (s : Int) : Mi := x.two.getD s.toNat Mi.nil
def bxOk (x : Bx) : Bool :=
 nOk x.id x.po && (rgOk x.rg && (decide (x.two.length = 2) && (miOk (mOf x 0) && (miOk (mOf x 1) && (x.net.all wiOk && (decide (x.net.length ≤ 20) && (decide ((x.ga.length : Int) = x.po) && (insB x.ln && decide (x.sd.length ≤ 40)))))))))
theorem bxOk_is {x : Bx} : bxOk x = true ↔ nOk x.id x.po = true ∧ rgOk x.rg = true ∧ x.two.length = 2 ∧ miOk (mOf x 0) = true ∧ miOk (mOf x 1) = true ∧ x.net.all wiOk = true ∧ x.net.length ≤ 20 ∧ (x.ga.length : Int) = x.po ∧ insB x.ln = true ∧ x.sd.length ≤ 40 := by
 unfold bxOk;simp only [Bool.and_eq_true, decide_eq_true_eq]
def newBx (id po : Int) : Bx := ⟨id, po, ⟨1, 0, 0⟩, [⟨true, 1, 1, [], 0, 0, 0⟩, ⟨true, 2, 0, [], 0, 0, 0⟩], [], (newL id po).map Pt.op, [], []⟩
theorem newBx_ok {id po : Int} (h : nOk id po = true) : bxOk (newBx id po) = true := by
 refine bxOk_is.2 ⟨h, rfl, rfl, rfl, rfl, rfl, Nat.zero_le _, ?_, rfl, Nat.zero_le _⟩;show (((newL id po).map Pt.op).length : Int) = po;unfold newL;rw [if_pos h];unfold nOk at h;simp only [Bool.and_eq_true, decide_eq_true_eq] at h;simp
 omega
def mindsX (x : Bx) (s : Int) : Bool := decide (0 ≤ s ∧ s < (x.two.length : Int)) && mindsB x.rg s (mOf x s)
def whoX (x : Bx) : Int := if mindsX x 0 then 0 else if mindsX x 1 then 1 else -1
def setM (x : Bx) (s : Int) (m : Mi) : Bx := ⟨x.id, x.po, x.rg, x.two.set s.toNat m, x.net, x.ga, x.ln, x.sd⟩
def setN (x : Bx) (N : List Wi) : Bx := ⟨x.id, x.po, x.rg, x.two, N, x.ga, x.ln, x.sd⟩
def setR (x : Bx) (r : Rg) : Bx := ⟨x.id, x.po, r, x.two, x.net, x.ga, x.ln, x.sd⟩
def gateX (G : List Bool) (o : Ou) : List Bool := if o.k = 2 ∧ 0 ≤ o.pt ∧ o.pt < (G.length : Int) then G.set o.pt.toNat o.on else G
theorem gateX_len (O : List Ou) : ∀ G : List Bool, (O.foldl gateX G).length = G.length := by
 induction O with
 | nil => intro G; rfl
 | cons o O ih =>
  intro G;rw [List.foldl_cons, ih];unfold gateX;split <;> simp
def lastS (O : List Ou) : List Ou := O.drop (O.length - 40)
theorem lastS_len (O : List Ou) : (lastS O).length ≤ 40 := by unfold lastS; rw [List.length_drop]; omega
def accX (x : Bx) (s : Int) (O : List Ou) : Bx := if mindsX x s then ⟨x.id, x.po, x.rg, x.two, x.net, O.foldl gateX x.ga, x.ln, lastS (x.sd ++ O)⟩ else x
def inX (x : Bx) (d : De) : Bx × Int :=
 if whoX x < 0 ∨ inOk d.x = false ∨ x.po ≤ d.x.q then (x, 3)
 else if noteB (mOf x (whoX x)) d.x then (setM x (whoX x) (noteR (mOf x (whoX x)) d.x), 0) else (x, 4)
def shipN (x : Bx) (s : Int) : Int := if (mOf x s).al = (mOf x (1 - s)).li then (mOf x s).ac else 0
def shipX (x : Bx) (s : Int) : Bx × Int :=
 if mindsX x s = false ∨ ((mOf x s).lg.length : Int) ≤ shipN x s then (x, 3)
 else if 20 ≤ x.net.length then (x, 4)
 else (setN x (x.net ++ [⟨s, false, (mOf x (1 - s)).li, shipN x s, (mOf x s).lg.getD (shipN x s).toNat ikN⟩]), 0)
def ackM (m : Mi) (w : Wi) : Mi := ⟨m.up, m.li, m.ep, m.lg, m.sd, min w.n (m.lg.length : Int), w.li⟩
def hearN (x : Bx) (w : Wi) : Bx := if (mOf x (1 - w.fr)).ep = 0 ∧ w.n = ((mOf x (1 - w.fr)).lg.length : Int) then setM x (1 - w.fr) (noteR (mOf x (1 - w.fr)) w.x) else x
def heardX (x : Bx) (w : Wi) : Bx :=
 if (mOf x (1 - w.fr)).up = false then x
 else if w.ak then
  if mindsX x (1 - w.fr) = true ∧ ((mOf x (1 - w.fr)).al < w.li ∨ w.li = (mOf x (1 - w.fr)).al ∧ (mOf x (1 - w.fr)).ac < w.n) then setM x (1 - w.fr) (ackM (mOf x (1 - w.fr)) w) else x
 else if w.li ≠ (mOf x (1 - w.fr)).li then x
 else if x.net.length < 20 then setN (hearN x w) (x.net ++ [⟨1 - w.fr, true, (mOf x (1 - w.fr)).li, ((mOf (hearN x w) (1 - w.fr)).lg.length : Int), ikN⟩]) else hearN x w
def netX (x : Bx) (d : De) : Bx × Int :=
 if d.a < 0 ∨ (x.net.length : Int) ≤ d.a then (x, 2)
 else if d.k = 5 then
  if 20 ≤ x.net.length then (x, 4) else (setN x (x.net ++ [x.net.getD d.a.toNat ⟨0, false, 0, 0, ikN⟩]), 0)
 else if d.k = 3 then (heardX (setN x (x.net.take d.a.toNat ++ x.net.drop (d.a.toNat + 1))) (x.net.getD d.a.toNat ⟨0, false, 0, 0, ikN⟩), 0)
 else (setN x (x.net.take d.a.toNat ++ x.net.drop (d.a.toNat + 1)), 0)
def saidM (m : Mi) : Mi := ⟨m.up, m.li, m.ep, m.lg, m.sd + 1, m.ac, m.al⟩
def lineX (x : Bx) (n : Int) (y : Ik) : Bx := if (x.ln.length : Int) ≤ n then ⟨x.id, x.po, x.rg, x.two, x.net, x.ga, x.ln ++ [y], x.sd⟩ else x
def sayX (x : Bx) : Bx × Int :=
 if whoX x < 0 ∨ readyB (mOf x (whoX x)) x.rg.pa = false then (x, 3)
 else (setM (lineX (accX x (whoX x) (sayL (newI x.id x.po) (newL x.id x.po) (mOf x (whoX x)).lg ikN (mOf x (whoX x)).sd)) (mOf x (whoX x)).sd ((mOf x (whoX x)).lg.getD (mOf x (whoX x)).sd.toNat ikN)) (whoX x) (saidM (mOf x (whoX x))), 0)
def riseM (x : Bx) : Mi := ⟨true, max (mOf x 0).li (mOf x 1).li + 1, 0, [], 0, 0, 0⟩
def fallX (x : Bx) (d : De) : Bx × Int :=
 if d.k = 7 ∧ (mOf x d.a).up = true then (setM x d.a ⟨false, (mOf x d.a).li, 0, [], 0, 0, 0⟩, 0)
 else if (d.k = 8 ∧ (mOf x d.a).up = false) ∨ (d.k = 12 ∧ (mOf x d.a).up = true ∧ 0 < (mOf x d.a).ep ∧ mindsX x d.a = false) then (setM x d.a (riseM x), 0)
 else (x, 3)
def heirM (x : Bx) (m : Mi) : Mi := ⟨(takeM x.rg m).up, (takeM x.rg m).li, (takeM x.rg m).ep, (takeM x.rg m).lg, (x.ln.length : Int), (takeM x.rg m).ac, (takeM x.rg m).al⟩
def regX (x : Bx) (d : De) : Bx × Int :=
 if d.k = 9 then
  if takeB x.rg d.a (mOf x d.a) = false then (x, 3)
  else if (mOf x d.a).lg.length < x.ln.length then (x, 4)
  else (setM (setR x (takeN x.rg d.a)) d.a (heirM x (mOf x d.a)), 0)
 else if pairsB x.rg d.a (mOf x d.a) (if d.k = 10 then (mOf x d.a).al else 0) then (setR x (pairsR x.rg d.a (mOf x d.a) (if d.k = 10 then (mOf x d.a).al else 0)), 0)
 else (x, 3)
def oneX (x : Bx) (d : De) : Bx × Int :=
 if d.k = 1 then inX x d else if d.k = 6 then sayX x else if d.k = 3 ∨ d.k = 4 ∨ d.k = 5 then netX x d
 else if d.a < 0 ∨ 1 < d.a then (x, 2)
 else if d.k = 2 then shipX x d.a else if d.k = 7 ∨ d.k = 8 ∨ d.k = 12 then fallX x d else regX x d
def boEnc (x : Bool) : List Value := [.bool x]
theorem boEnc_len (x : Bool) : (boEnc x).length = 1 := rfl
theorem boEnc_ones (L : List Bool) : ∀ u ∈ fcells boEnc L, u.oneCell' = true := by
 induction L with
 | nil => intro u h; cases h
 | cons x L ih =>
  intro u h;simp only [fcells, boEnc, List.mem_append, List.mem_cons, List.not_mem_nil, or_false] at h;rcases h with rfl | h
  ·
   rfl
  exact ih u h
theorem boInfo : (Tryz.prog.info? 4).map (fun i => (i.zero, i.size, i.bytes)) = some (some (.bool false), 1, 1) := by kernel_rfl
theorem FView.oneB (w : World) (t : TypeId) (x : Bool) : FView boEnc (w.alloc (Obj.cells #[.bool x] t)) (some ⟨w.heap.size, 0, none⟩) [x] := by
 intro _;refine ⟨w.heap.size, 0, rfl, fun j v hv => ?_⟩;match j, hv with
 | 0, hv => cases hv; simp [go_sem]
 | j + 1, hv => simp [fcells, boEnc] at hv
def gatesR (L : List Pt) : List Bool := L.map Pt.op
theorem gatesR_len (L : List Pt) : (gatesR L).length = L.length := List.length_map ..
theorem gatesR_take (L : List Pt) {k : Nat} (hk : k < L.length) : gatesR (L.take (k + 1)) = gatesR (L.take k) ++ [(L.getD k Pt.nil).op] := by
 unfold gatesR;rw [List.take_add_one, List.map_append];have e : L[k]?.toList = [L.getD k Pt.nil] := by simp [List.getD, hk]
 rw [e]; rfl
def Wi.nil : Wi := ⟨0, false, 0, 0, ikN⟩
structure MiD where
 m : Mi
 ad : Option Addr
 cap : Nat
def MiD.nil : MiD := ⟨Mi.nil, none, 0⟩
def wiEnc (x : Wi) : List Value := [.int .i64 x.fr, .bool x.ak, .int .i64 x.li, .int .i64 x.n, .int .i64 x.x.k, .int .i64 x.x.q, .int .i64 x.x.r, .int .i64 x.x.c, .int .i64 x.x.b, .int .i64 x.x.p, .int .i64 x.x.h, .bool x.x.up]
theorem wiEnc_len (x : Wi) : (wiEnc x).length = 12 := rfl
theorem wiEnc_ones (L : List Wi) : ∀ u ∈ fcells wiEnc L, u.oneCell' = true := by
 induction L with
 | nil => intro u h; cases h
 | cons x L ih =>
  intro u h;simp only [fcells, wiEnc, List.mem_append, List.mem_cons, List.not_mem_nil, or_false] at h;rcases h with (rfl | rfl | rfl | rfl | rfl | rfl | rfl | rfl | rfl | rfl | rfl | rfl) | h
  ·
   rfl
  ·
   rfl
  ·
   rfl
  ·
   rfl
  ·
   rfl
  ·
   rfl
  ·
   rfl
  ·
   rfl
  ·
   rfl
  ·
   rfl
  ·
   rfl
  ·
   rfl
  exact ih u h
structure WiAtO (w : World) (b o : Nat) (x : Wi) : Prop where
 c0 : w.cell? ⟨b, o, none⟩ = some (.int .i64 x.fr)
 c1 : w.cell? ⟨b, o + 1, none⟩ = some (.bool x.ak)
 c2 : w.cell? ⟨b, o + 2, none⟩ = some (.int .i64 x.li)
 c3 : w.cell? ⟨b, o + 3, none⟩ = some (.int .i64 x.n)
 c4 : w.cell? ⟨b, o + 4, none⟩ = some (.int .i64 x.x.k)
 c5 : w.cell? ⟨b, o + 5, none⟩ = some (.int .i64 x.x.q)
 c6 : w.cell? ⟨b, o + 6, none⟩ = some (.int .i64 x.x.r)
 c7 : w.cell? ⟨b, o + 7, none⟩ = some (.int .i64 x.x.c)
 c8 : w.cell? ⟨b, o + 8, none⟩ = some (.int .i64 x.x.b)
 c9 : w.cell? ⟨b, o + 9, none⟩ = some (.int .i64 x.x.p)
 c10 : w.cell? ⟨b, o + 10, none⟩ = some (.int .i64 x.x.h)
 c11 : w.cell? ⟨b, o + 11, none⟩ = some (.bool x.x.up)
theorem wiAtO_of {w : World} {b o : Nat} {x : Wi} (h : ∀ j v, (wiEnc x)[j]? = some v → w.cell? ⟨b, o + j, none⟩ = some v) : WiAtO w b o x := ⟨h 0 _ rfl, h 1 _ rfl, h 2 _ rfl, h 3 _ rfl, h 4 _ rfl, h 5 _ rfl, h 6 _ rfl, h 7 _ rfl, h 8 _ rfl, h 9 _ rfl, h 10 _ rfl, h 11 _ rfl⟩
def mdEnc (x : MiD) : List Value := [.bool x.m.up, .int .i64 x.m.li, .int .i64 x.m.ep, .slice x.ad x.m.lg.length x.cap, .int .i64 x.m.sd, .int .i64 x.m.ac, .int .i64 x.m.al]
theorem mdEnc_len (x : MiD) : (mdEnc x).length = 7 := rfl
theorem mdEnc_ones (L : List MiD) : ∀ u ∈ fcells mdEnc L, u.oneCell' = true := by
 induction L with
 | nil => intro u h; cases h
 | cons x L ih =>
  intro u h;simp only [fcells, mdEnc, List.mem_append, List.mem_cons, List.not_mem_nil, or_false] at h;rcases h with (rfl | rfl | rfl | rfl | rfl | rfl | rfl) | h
  ·
   rfl
  ·
   rfl
  ·
   rfl
  ·
   rfl
  ·
   rfl
  ·
   rfl
  ·
   rfl
  exact ih u h
structure MdAtO (w : World) (b o : Nat) (x : MiD) : Prop where
 c0 : w.cell? ⟨b, o, none⟩ = some (.bool x.m.up)
 c1 : w.cell? ⟨b, o + 1, none⟩ = some (.int .i64 x.m.li)
 c2 : w.cell? ⟨b, o + 2, none⟩ = some (.int .i64 x.m.ep)
 c3 : w.cell? ⟨b, o + 3, none⟩ = some (.slice x.ad x.m.lg.length x.cap)
 c4 : w.cell? ⟨b, o + 4, none⟩ = some (.int .i64 x.m.sd)
 c5 : w.cell? ⟨b, o + 5, none⟩ = some (.int .i64 x.m.ac)
 c6 : w.cell? ⟨b, o + 6, none⟩ = some (.int .i64 x.m.al)
theorem mdAtO_of {w : World} {b o : Nat} {x : MiD} (h : ∀ j v, (mdEnc x)[j]? = some v → w.cell? ⟨b, o + j, none⟩ = some v) : MdAtO w b o x := ⟨h 0 _ rfl, h 1 _ rfl, h 2 _ rfl, h 3 _ rfl, h 4 _ rfl, h 5 _ rfl, h 6 _ rfl⟩
structure BxD where
 id : Int
 po : Int
 rg : Rg
 two : List MiD
 aT : Option Addr
 cT : Nat
 net : List Wi
 aN : Option Addr
 cN : Nat
 ga : List Bool
 aG : Option Addr
 cG : Nat
 ln : List Ik
 aL : Option Addr
 cL : Nat
 sd : List Ou
 aS : Option Addr
 cS : Nat
def BxD.p (x : BxD) : Bx := ⟨x.id, x.po, x.rg, x.two.map MiD.m, x.net, x.ga, x.ln, x.sd⟩
structure BxAt (w : World) (q : Nat) (x : BxD) : Prop where
 c0 : w.cell? ⟨q, 0, none⟩ = some (.int .i64 x.id)
 c1 : w.cell? ⟨q, 1, none⟩ = some (.int .i64 x.po)
 c2 : w.cell? ⟨q, 2, none⟩ = some (.int .i64 x.rg.ep)
 c3 : w.cell? ⟨q, 3, none⟩ = some (.int .i64 x.rg.ow)
 c4 : w.cell? ⟨q, 4, none⟩ = some (.int .i64 x.rg.pa)
 c5 : w.cell? ⟨q, 5, none⟩ = some (.slice x.aT x.two.length x.cT)
 c6 : w.cell? ⟨q, 6, none⟩ = some (.slice x.aN x.net.length x.cN)
 c7 : w.cell? ⟨q, 7, none⟩ = some (.slice x.aG x.ga.length x.cG)
 c8 : w.cell? ⟨q, 8, none⟩ = some (.slice x.aL x.ln.length x.cL)
 c9 : w.cell? ⟨q, 9, none⟩ = some (.slice x.aS x.sd.length x.cS)
theorem BxAt.keep {w w' : World} {q : Nat} {x : BxD} (h : BxAt w q x) (k : w'.heap[q]? = w.heap[q]?) : BxAt w' q x :=
 ⟨(World.cell?_of_block (a := ⟨q, 0, none⟩) k).trans h.c0, (World.cell?_of_block (a := ⟨q, 1, none⟩) k).trans h.c1, (World.cell?_of_block (a := ⟨q, 2, none⟩) k).trans h.c2, (World.cell?_of_block (a := ⟨q, 3, none⟩) k).trans h.c3, (World.cell?_of_block (a := ⟨q, 4, none⟩) k).trans h.c4, (World.cell?_of_block (a := ⟨q, 5, none⟩) k).trans h.c5, (World.cell?_of_block (a := ⟨q, 6, none⟩) k).trans h.c6, (World.cell?_of_block (a := ⟨q, 7, none⟩) k).trans h.c7, (World.cell?_of_block (a := ⟨q, 8, none⟩) k).trans h.c8, (World.cell?_of_block (a := ⟨q, 9, none⟩) k).trans h.c9⟩
theorem BxAt.below {w w' : World} {q n : Nat} {x : BxD} (h : BxAt w q x) (k : Below n w w') (hq : q < n) : BxAt w' q x := h.keep (k.block q hq)
theorem BxAt.lt {w : World} {q : Nat} {x : BxD} (h : BxAt w q x) : q < w.heap.size := World.block_lt_of_cell? w _ h.c0
theorem BxAt.new (w : World) (t : TypeId) (x : BxD) : BxAt (w.alloc (Obj.cells #[.int .i64 x.id, .int .i64 x.po, .int .i64 x.rg.ep, .int .i64 x.rg.ow, .int .i64 x.rg.pa, .slice x.aT x.two.length x.cT, .slice x.aN x.net.length x.cN, .slice x.aG x.ga.length x.cG, .slice x.aL x.ln.length x.cL, .slice x.aS x.sd.length x.cS] t)) w.heap.size x := by
 refine ⟨?_, ?_, ?_, ?_, ?_, ?_, ?_, ?_, ?_, ?_⟩ <;> simp [go_sem]
structure BxV (w : World) (x : BxD) : Prop where
 t : FView mdEnc w x.aT x.two
 l : ∀ i, i < x.two.length → FView ikEnc w (x.two.getD i MiD.nil).ad (x.two.getD i MiD.nil).m.lg
 n : FView wiEnc w x.aN x.net
 g : FView boEnc w x.aG x.ga
 i : FView ikEnc w x.aL x.ln
 s : FView ouEnc w x.aS x.sd
 bt : x.two.length ≤ 1048576
 bl : ∀ i, i < x.two.length → (x.two.getD i MiD.nil).m.lg.length ≤ 1048576
 bn : x.net.length ≤ 1048576
 bg : x.ga.length ≤ 1048576
 bi : x.ln.length ≤ 1048576
 bs : x.sd.length ≤ 1048576
 ct : x.two.length ≤ x.cT
theorem BxV.later {w w' : World} {x : BxD} (h : BxV w x) (k : Below w.heap.size w w') : BxV w' x :=
 ⟨h.t.below k (h.t.lt mdEnc_len (by omega)), fun i hi => (h.l i hi).below k ((h.l i hi).lt ikEnc_len (by omega)), h.n.below k (h.n.lt wiEnc_len (by omega)), h.g.below k (h.g.lt boEnc_len (by omega)), h.i.below k (h.i.lt ikEnc_len (by omega)), h.s.below k (h.s.lt ouEnc_len (by omega)), h.bt, h.bl, h.bn, h.bg, h.bi, h.bs, h.ct⟩
theorem mOf_p (x : BxD) (s : Int) : mOf x.p s = (x.two.getD s.toNat MiD.nil).m := by
 unfold mOf BxD.p;simp only [List.getD, List.getElem?_map];cases x.two[s.toNat]? <;> rfl
theorem wiInfo : (Tryz.prog.info? 112).map (fun i => (i.zero, i.size, i.bytes)) = some (some (.agg #[.int .i64 0, .bool false, .int .i64 0, .int .i64 0, .int .i64 0, .int .i64 0, .int .i64 0, .int .i64 0, .int .i64 0, .int .i64 0, .int .i64 0, .bool false]), 12, 96) := by kernel_rfl
def LS {X : Type} (enc : X → List Value) (n : Nat) (T : TypeId) (base : Nat) (W : World) (b a : Bool) (v v' : Value) (L : List X) : Prop :=
 (b = false ∧ a = false ∧ v = undef ∧ v' = undef) ∨ (b = true ∧ a = false ∧ v' = undef ∧ FOwn enc n T base W v ([] : List X)) ∨ (b = true ∧ a = true ∧ FOwn enc n T base W v' L)
theorem LS.keep {X : Type} {enc : X → List Value} {n : Nat} {T : TypeId} {base : Nat} {W W' : World} {b a : Bool} {v v' : Value} {L : List X} (h : LS enc n T base W b a v v' L) (k : ∀ (u : Value) (M : List X), FOwn enc n T base W u M → ∀ g, u.ownBlock = some g → W'.heap[g]? = W.heap[g]?) : LS enc n T base W' b a v v' L := by
 rcases h with h | ⟨h1, h2, h3, h4⟩ | ⟨h1, h2, h3⟩
 ·
  exact .inl h
 ·
  exact .inr (.inl ⟨h1, h2, h3, h4.keep (k _ _ h4)⟩)
 exact .inr (.inr ⟨h1, h2, h3.keep (k _ _ h3)⟩)
theorem LS.alloc {X : Type} {enc : X → List Value} {n : Nat} {T : TypeId} {base : Nat} {W : World} {b a : Bool} {v v' : Value} {L : List X} (h : LS enc n T base W b a v v' L) (ob : Obj) : LS enc n T base (W.alloc ob) b a v v' L :=
 h.keep (fun u M ho g e => Below.heap_alloc W ob g (ho.lt g e).2)
def ZBx (W : World) (q : Nat) : Prop := W.heap[q]? = some (Obj.cells #[.int .i64 0, .int .i64 0, .int .i64 0, .int .i64 0, .int .i64 0, .slice none 0 0, .slice none 0 0, .slice none 0 0, .slice none 0 0, .slice none 0 0] 48)
def cpL (b1 a1 b2 a2 b3 a3 b4 a4 al c : Bool) : Array Bool := #[true, true, true, true, true, true, b1, true, true, a1, b2, true, true, a2, b3, true, true, a3, b4, true, true, a4, c, al, false]
def cpN (b1 a1 b2 a2 b3 a3 b4 a4 al c : Bool) : Nat := (!b1).toNat + (!a1).toNat + (!b2).toNat + (!a2).toNat + (!b3).toNat + (!a3).toNat + (!b4).toNat + (!a4).toNat + (!al).toNat + (!c).toNat
def cpR (b1 a1 b2 a2 b3 a3 b4 a4 al c : Bool) : List Nat := (if b1 then [] else [6]) ++ (if b1 && !a1 then [9] else []) ++ (if b2 then [] else [10]) ++ (if b2 && a1 && !a2 then [13] else []) ++ (if b3 then [] else [14]) ++ (if b3 && a2 && !a3 then [17] else []) ++ (if b4 then [] else [18]) ++ (if b4 && a3 && !a4 then [21] else []) ++ (if a4 && !c then [22] else []) ++ (if al then [] else [23])
def cpF (x : BxD) (B : Nat) (v3 v11 v14 v15 v18 v19 v22 v23 v26 v27 : Value) : List Value := [.agg #[.int .i64 x.id, .int .i64 x.po, .int .i64 x.rg.ep, .int .i64 x.rg.ow, .int .i64 x.rg.pa, .slice x.aT x.two.length x.cT, .slice x.aN x.net.length x.cN, .slice x.aG x.ga.length x.cG, .slice x.aL x.ln.length x.cL, .slice x.aS x.sd.length x.cS], .pointer (some ⟨B, 0, none⟩), .pointer (some ⟨(B + 1), 0, none⟩), v3, undef, .pointer (some ⟨B, 0, none⟩), .int .i64 x.id, .pointer (some ⟨B, 1, none⟩), .int .i64 x.po, .pointer (some ⟨B, 2, none⟩), .agg #[.int .i64 x.rg.ep, .int .i64 x.rg.ow, .int .i64 x.rg.pa], v11, .pointer (some ⟨B, 6, none⟩), .slice x.aN x.net.length x.cN, v14, v15, .pointer (some ⟨B, 7, none⟩), .slice x.aG x.ga.length x.cG, v18, v19, .pointer (some ⟨B, 8, none⟩), .slice x.aL x.ln.length x.cL, v22, v23, .pointer (some ⟨B, 9, none⟩), .slice x.aS x.sd.length x.cS, v26, v27, undef, undef, undef, undef, undef, undef, undef, undef, undef, undef, undef, undef, undef, undef, undef, undef, undef, undef, undef]
def cpV (x : BxD) (v14 v18 v22 v26 : Value) : Value := .agg #[.int .i64 x.id, .int .i64 x.po, .int .i64 x.rg.ep, .int .i64 x.rg.ow, .int .i64 x.rg.pa, .slice none 0 0, v14, v18, v22, v26]
structure CpS (x : BxD) (base : Nat) (y : World) (b1 a1 b2 a2 b3 a3 b4 a4 al c : Bool) (v3 v11 v14 v15 v18 v19 v22 v23 v26 v27 : Value) (W : World) : Prop where
 bel : Below base y W
 h1 : LS wiEnc 12 112 base W b1 a1 v11 v14 x.net
 h2 : LS boEnc 1 4 base W b2 a2 v15 v18 x.ga
 h3 : LS ikEnc 8 105 base W b3 a3 v19 v22 x.ln
 h4 : LS ouEnc 8 114 base W b4 a4 v23 v26 x.sd
 k2 : a2 = true → a1 = true
 k3 : a3 = true → a2 = true
 k4 : a4 = true → a3 = true
 k5 : c = true → a4 = true
 ha : (al = false ∧ v3 = undef) ∨ (al = true ∧ ∃ q, v3 = .pointer (some ⟨q, 0, none⟩) ∧ ZBx W q ∧ base ≤ q)
 hc : (c = false ∧ v27 = undef) ∨ (c = true ∧ v27 = cpV x v14 v18 v22 v26)
def CpI (x : BxD) (B base : Nat) (y : World) (n : Nat) (listed : Array Bool) (l : List Value) (W : World) : Prop :=
 ∃ (b1 a1 b2 a2 b3 a3 b4 a4 al c : Bool) (v3 v11 v14 v15 v18 v19 v22 v23 v26 v27 : Value), n = cpN b1 a1 b2 a2 b3 a3 b4 a4 al c ∧ listed = cpL b1 a1 b2 a2 b3 a3 b4 a4 al c ∧ l = cpF x B v3 v11 v14 v15 v18 v19 v22 v23 v26 v27 ∧ CpS x base y b1 a1 b2 a2 b3 a3 b4 a4 al c v3 v11 v14 v15 v18 v19 v22 v23 v26 v27 W
theorem LS.flag {X : Type} {enc : X → List Value} {n : Nat} {T : TypeId} {base : Nat} {W : World} {b a : Bool} {v v' : Value} {L : List X} (h : LS enc n T base W b a v v' L) : a = true → b = true := by
 rcases h with h | h | h
 ·
  intro e; rw [h.2.1] at e; cases e
 ·
  intro e; rw [h.2.1] at e; cases e
 intro _; exact h.1
theorem FOwn.notZ {X : Type} {enc : X → List Value} {n : Nat} {T : TypeId} {base : Nat} {w : World} {v : Value} {L : List X} (h : FOwn enc n T base w v L) {q : Nat} (hz : ZBx w q) (hT : T ≠ 48) : v.ownBlock ≠ some q := by
 intro e;rcases h.2 with ⟨q1, _⟩ | ⟨g1, c1, u1, q1, _, o1, _⟩
 ·
  rw [q1] at e; cases e
 rw [q1] at e;cases e
 unfold ZBx at hz;rw [hz] at o1;simp only [Option.some.injEq, Obj.cells.injEq] at o1;exact hT o1.2.1.symm
theorem cpN_zero : ∀ (b1 a1 b2 a2 b3 a3 b4 a4 al c : Bool), cpN b1 a1 b2 a2 b3 a3 b4 a4 al c = 0 → b1 = true ∧ a1 = true ∧ b2 = true ∧ a2 = true ∧ b3 = true ∧ a3 = true ∧ b4 = true ∧ a4 = true ∧ al = true ∧ c = true := by
 intro b1 a1 b2 a2 b3 a3 b4 a4 al c h;unfold cpN at h;cases b1 <;> cases a1 <;> cases b2 <;> cases a2 <;> cases b3 <;> cases a3 <;> cases b4 <;> cases a4 <;> cases al <;> cases c <;> first | (cases h; done) | exact ⟨rfl, rfl, rfl, rfl, rfl, rfl, rfl, rfl, rfl, rfl⟩
theorem cpR_ne : ∀ (b1 a1 b2 a2 b3 a3 b4 a4 al c : Bool), (a2 = true → a1 = true) → (a3 = true → a2 = true) → (a4 = true → a3 = true) → (c = true → a4 = true) → cpN b1 a1 b2 a2 b3 a3 b4 a4 al c ≠ 0 → cpR b1 a1 b2 a2 b3 a3 b4 a4 al c ≠ [] := of_decide_eq_true (by kernel_rfl)
theorem FOwn.capM {X : Type} {enc : X → List Value} {n : Nat} {T : TypeId} {base : Nat} {w : World} {ad : Option Addr} {cap : Nat} {L : List X} (h : FOwn enc n T base w (.slice ad L.length cap) L) : L.length ≤ cap := by
 rcases h.2 with ⟨e, h0⟩ | ⟨g, c, cur, e, _, _, hc, _⟩
 ·
  omega
 simp only [Value.slice.injEq] at e;omega
def MiD.v (d : MiD) : Value := .slice d.ad d.m.lg.length d.cap
structure MV (w : World) (ad : Option Addr) (Bs : List MiD) : Prop where
 row : FView mdEnc w ad Bs
 nest : ∀ i, i < Bs.length → FView ikEnc w (Bs.getD i MiD.nil).ad (Bs.getD i MiD.nil).m.lg
 nil0 : ∀ i, i < Bs.length → (Bs.getD i MiD.nil).ad = none → (Bs.getD i MiD.nil).cap = 0
theorem MV.below {w w' : World} {ad : Option Addr} {Bs : List MiD} {B : Nat} (h : MV w ad Bs) (k : Below B w w') (hB : w.heap.size ≤ B) : MV w' ad Bs :=
 ⟨h.row.below k (fun a e p => Nat.lt_of_lt_of_le (h.row.lt mdEnc_len (by omega) a e p) hB), fun i hi => (h.nest i hi).below k (fun a e p => Nat.lt_of_lt_of_le ((h.nest i hi).lt ikEnc_len (by omega) a e p) hB), h.nil0⟩
structure MOwn (lo hi : Nat) (w : World) (v : Value) (Bs : List MiD) : Prop where
 row : FOwn mdEnc 7 28 lo w v Bs
 nest : ∀ i, i < Bs.length → FOwn ikEnc 8 105 lo w (Bs.getD i MiD.nil).v (Bs.getD i MiD.nil).m.lg
 rhi : ∀ g, v.ownBlock = some g → g < hi
 nhi : ∀ i, i < Bs.length → ∀ g, (Bs.getD i MiD.nil).v.ownBlock = some g → g < hi
 apart : ∀ i, i < Bs.length → ∀ g h, v.ownBlock = some g → (Bs.getD i MiD.nil).v.ownBlock = some h → g ≠ h
 aparts : ∀ i j, i < j → j < Bs.length → ∀ g h, (Bs.getD i MiD.nil).v.ownBlock = some g → (Bs.getD j MiD.nil).v.ownBlock = some h → g ≠ h
theorem own_noneM {X : Type} {enc : X → List Value} {n : Nat} {T : TypeId} {base : Nat} {w : World} {len cap : Nat} {L : List X} (h : FOwn enc n T base w (.slice none len cap) L) : cap = 0 := by
 rcases h.2 with ⟨q, _⟩ | ⟨g, c, cur, q, _⟩
 ·
  simp only [Value.slice.injEq] at q;exact q.2.2
 simp at q
theorem MOwn.view {lo hi : Nat} {w : World} {ad : Option Addr} {len cap : Nat} {Bs : List MiD} (h : MOwn lo hi w (.slice ad len cap) Bs) : len = Bs.length ∧ MV w ad Bs := by
 refine ⟨h.row.view.1, h.row.view.2, fun i hi => (h.nest i hi).view.2, fun i hi e => ?_⟩;have := h.nest i hi;unfold MiD.v at this;rw [e] at this;exact own_noneM this
theorem MOwn.wide {lo hi lo' hi' : Nat} {w : World} {v : Value} {Bs : List MiD} (h : MOwn lo hi w v Bs) (h1 : lo' ≤ lo) (h2 : hi ≤ hi') : MOwn lo' hi' w v Bs :=
 ⟨h.row.base h1, fun i hi => (h.nest i hi).base h1, fun g e => Nat.lt_of_lt_of_le (h.rhi g e) h2, fun i hi g e => Nat.lt_of_lt_of_le (h.nhi i hi g e) h2, h.apart, h.aparts⟩
theorem pe_Rg1 {w : World} {q i j : Nat} {u v : Value} (h : w.cell? ⟨q, j, none⟩ = some u) (hij : i ≠ j := by decide) : (w.setCell ⟨q, i, none⟩ v).cell? ⟨q, j, none⟩ = some u := (pset_else hij).trans h
theorem ps_Rg1 {w : World} {q i : Nat} {u v : Value} (h : w.cell? ⟨q, i, none⟩ = some u) : (w.setCell ⟨q, i, none⟩ v).cell? ⟨q, i, none⟩ = some v := pset_same h
structure RgAt (w : World) (q : Nat) (r : Rg) : Prop where
 c0 : w.cell? ⟨q, 0, none⟩ = some (.int .i64 r.ep)
 c1 : w.cell? ⟨q, 1, none⟩ = some (.int .i64 r.ow)
 c2 : w.cell? ⟨q, 2, none⟩ = some (.int .i64 r.pa)
theorem RgAt.keep {w w' : World} {q : Nat} {r : Rg} (h : RgAt w q r) (k : w'.heap[q]? = w.heap[q]?) : RgAt w' q r :=
 ⟨(World.cell?_of_block (a := ⟨q, 0, none⟩) k).trans h.c0, (World.cell?_of_block (a := ⟨q, 1, none⟩) k).trans h.c1, (World.cell?_of_block (a := ⟨q, 2, none⟩) k).trans h.c2⟩
theorem RgAt.below {w w' : World} {q n : Nat} {r : Rg} (h : RgAt w q r) (k : Below n w w') (hq : q < n) : RgAt w' q r := h.keep (k.block q hq)
theorem RgAt.lt {w : World} {q : Nat} {r : Rg} (h : RgAt w q r) : q < w.heap.size := World.block_lt_of_cell? w _ h.c0
theorem RgAt.new (w : World) (t : TypeId) (r : Rg) : RgAt (w.alloc (Obj.cells #[.int .i64 r.ep, .int .i64 r.ow, .int .i64 r.pa] t)) w.heap.size r := by
 refine ⟨?_, ?_, ?_⟩ <;> simp [go_sem]
structure RgBox (w : World) (q : Nat) (r : Rg) : Prop where
 at_ : RgAt w q r
 fr : ∀ i, w.frozen? ⟨q, i, none⟩ = false
theorem RgBox.keep {w w' : World} {q : Nat} {r : Rg} (h : RgBox w q r) (k : w'.heap[q]? = w.heap[q]?) : RgBox w' q r :=
 ⟨h.at_.keep k, fun i => (World.frozen?_of_block (a := ⟨q, i, none⟩) k).trans (h.fr i)⟩
theorem RgBox.below {w w' : World} {q n : Nat} {r : Rg} (h : RgBox w q r) (k : Below n w w') (hq : q < n) : RgBox w' q r := h.keep (k.block q hq)
theorem RgBox.lt {w : World} {q : Nat} {r : Rg} (h : RgBox w q r) : q < w.heap.size := h.at_.lt
theorem RgBox.put {w : World} {q : Nat} {r : Rg} (h : RgBox w q r) (r' : Rg) : RgBox (((w.setCell ⟨q, 0, none⟩ (.int .i64 r'.ep)).setCell ⟨q, 1, none⟩ (.int .i64 r'.ow)).setCell ⟨q, 2, none⟩ (.int .i64 r'.pa)) q r' := by
 obtain ⟨⟨h0, h1, h2⟩, hf⟩ := h;refine ⟨⟨(pset_else (by decide)).trans (pe_Rg1 (ps_Rg1 h0)), (pset_else (by decide)).trans (ps_Rg1 (pe_Rg1 h1)), pset_same (pe_Rg1 (pe_Rg1 h2))⟩, fun i => ?_⟩;rw [World.frozen?_setCell, World.frozen?_setCell, World.frozen?_setCell]; exact hf i
theorem heap_put3 (w : World) (q k : Nat) (r' : Rg) (h : k ≠ q) : (((w.setCell ⟨q, 0, none⟩ (.int .i64 r'.ep)).setCell ⟨q, 1, none⟩ (.int .i64 r'.ow)).setCell ⟨q, 2, none⟩ (.int .i64 r'.pa)).heap[k]? = w.heap[k]? := by
 rw [Below.heap_setCell _ _ _ _ h, Below.heap_setCell _ _ _ _ h, Below.heap_setCell _ _ _ _ h]
theorem below_put3 {a w : World} {q n : Nat} (r' : Rg) (h : Below n a w) (hq : n ≤ q) : Below n a (((w.setCell ⟨q, 0, none⟩ (.int .i64 r'.ep)).setCell ⟨q, 1, none⟩ (.int .i64 r'.ow)).setCell ⟨q, 2, none⟩ (.int .i64 r'.pa)) :=
 ((h.setCell (p := ⟨q, 0, none⟩) hq _).setCell (p := ⟨q, 1, none⟩) hq _).setCell (p := ⟨q, 2, none⟩) hq _
theorem maxS (a b : Int) (w : World) : Calls Tryz.prog 223 #[.int .i64 a, .int .i64 b] w fun e w' => e = .returned (.int .i64 (if b < a then a else b)) ∧ w' = w := by
 by_cases h : b < a
 ·
  rw [if_pos h];have d : decide (b < a) = true := decide_eq_true h;go_enter Tryz.func223, Tryz.ntmps223
  go_wp2
  go_ret
  exact ⟨rfl, rfl⟩
 rw [if_neg h];have d : decide (b < a) = false := decide_eq_false h;go_enter Tryz.func223, Tryz.ntmps223
 go_wp2
 go_ret
 exact ⟨rfl, rfl⟩
set_option maxHeartbeats 2000000 in
theorem regOkS (r : Rg) (w : World) : Calls Tryz.prog 21 #[.agg #[.int .i64 r.ep, .int .i64 r.ow, .int .i64 r.pa]] w fun e w' => e = .returned (.bool (rgOk r)) ∧ Below w.heap.size w w' := by
 obtain ⟨R, hR⟩ := mk_ (rgOk r);rw [← hR];replace hR : Hid _ := hR;obtain ⟨y, hy⟩ := mk_ (w.alloc (Obj.cells #[.int .i64 r.ep, .int .i64 r.ow, .int .i64 r.pa] 25));have B0 : Below w.heap.size w y := by rw [hy]; exact below_new _
 have A : RgAt y w.heap.size r := by rw [hy]; exact RgAt.new w _ r
 go_enter Tryz.func21, Tryz.ntmps21
 go_upto_region 1 with fail
 rw [← hy];clear hy;obtain ⟨x0, x1, x2⟩ := id A;go_wp2_with fail
 go_at_call 65
 refine (inB r.ep 1 100000 y).mono ?_;rintro e v0 ⟨rfl, hw_⟩;have A := (by rw [hw_]; exact A : RgAt v0 w.heap.size r);have B0 := (by rw [hw_]; exact B0 : Below w.heap.size w v0);clear hw_;clear x0 x1 x2;cases h1 : decide (1 ≤ r.ep ∧ r.ep ≤ 100000)
 ·
  have hN : Hid (R = false) := by unfold Hid; rw [hR.out]; unfold rgOk; rw [h1]; rfl
  clear h1;go_wp2
  go_ret
  exact ⟨by rw [hN.out]; rfl, B0⟩
 replace h1 : Hid _ := h1;obtain ⟨x0, x1, x2⟩ := id A;go_wp2_with fail
 go_at_call 65
 refine (inB r.ow 0 1 v0).mono ?_;rintro e v1 ⟨rfl, hw_⟩;have A := (by rw [hw_]; exact A : RgAt v1 w.heap.size r);have B0 := (by rw [hw_]; exact B0 : Below w.heap.size w v1);clear hw_;clear x0 x1 x2;cases h2 : decide (0 ≤ r.ow ∧ r.ow ≤ 1)
 ·
  have hN : Hid (R = false) := by unfold Hid; rw [hR.out]; unfold rgOk; rw [h1.out, h2]; rfl
  clear h2;go_wp2
  go_ret
  exact ⟨by rw [hN.out]; rfl, B0⟩
 replace h2 : Hid _ := h2;obtain ⟨x0, x1, x2⟩ := id A;go_wp2_with fail
 go_at_call 65
 refine (inB r.pa 0 100000 v1).mono ?_;rintro e v2 ⟨rfl, hw_⟩;have A := (by rw [hw_]; exact A : RgAt v2 w.heap.size r);have B0 := (by rw [hw_]; exact B0 : Below w.heap.size w v2);clear hw_;clear x0 x1 x2;rw [show decide (0 ≤ r.pa ∧ r.pa ≤ 100000) = numB r.pa from rfl];have hN : Hid (R = numB r.pa) := by unfold Hid; rw [hR.out]; unfold rgOk; rw [h1.out, h2.out]; rfl
 rw [← hN.out];go_wp2
 go_ret
 exact ⟨rfl, B0⟩
set_option maxHeartbeats 2000000 in
theorem mindsS (r : Rg) (s : Int) (m : Mi) (ad : Option Addr) (cap : Nat) (w : World) (hv : FView ikEnc w ad m.lg) (hl : m.lg.length ≤ 1048577) :
  Calls Tryz.prog 19 #[.agg #[.int .i64 r.ep, .int .i64 r.ow, .int .i64 r.pa], .int .i64 s, .agg #[.bool m.up, .int .i64 m.li, .int .i64 m.ep, .slice ad m.lg.length cap, .int .i64 m.sd, .int .i64 m.ac, .int .i64 m.al]] w fun e w' => e = .returned (.bool (mindsB r s m)) ∧ Below w.heap.size w w' := by
 have hB := hv.lt ikEnc_len (by omega);obtain ⟨R, hR⟩ := mk_ (mindsB r s m);rw [← hR];replace hR : Hid _ := hR;obtain ⟨y, hy⟩ := mk_ ((w.alloc (Obj.cells #[.int .i64 r.ep, .int .i64 r.ow, .int .i64 r.pa] 25)).alloc (Obj.cells #[.bool m.up, .int .i64 m.li, .int .i64 m.ep, .slice ad m.lg.length cap, .int .i64 m.sd, .int .i64 m.ac, .int .i64 m.al] 28));have B0 : Below w.heap.size w y := by rw [hy]; exact ((Below.refl _ _).alloc (Nat.le_refl _) _).alloc (by simp) _
 have A : RgAt y w.heap.size r := by rw [hy]; constructor <;> simp [go_sem]
 have M : MiAt y (w.heap.size + 1) m (.slice ad m.lg.length cap) := by rw [hy]; constructor <;> simp [go_sem]
 have hv1 := hv.below B0 hB;clear hv hB;go_enter Tryz.func19, Tryz.ntmps19
 obtain ⟨x0, x1, x2⟩ := id A;go_wp2_with fail
 go_at_call 21
 rw [← hy];clear hy x0 x1 x2;refine (regOkS r y).mono ?_;rintro e v1 ⟨rfl, k1⟩;have A := A.below k1 A.lt;have M := M.below k1 M.lt;have hv1 := hv1.below k1 (hv1.lt ikEnc_len (by omega));have B1 := B0.trans (k1.mono B0.size);clear k1 B0;cases h1 : rgOk r
 ·
  have hN : Hid (R = false) := by unfold Hid; rw [hR.out]; unfold mindsB; rw [h1]; rfl
  clear h1;go_wp2
  go_ret
  exact ⟨by rw [hN.out]; rfl, B1⟩
 replace h1 : Hid _ := h1;obtain ⟨x0, x1, x2, x3, x4, x5, x6⟩ := id M;go_wp2_with fail
 go_at_call 64
 clear x0 x1 x2 x3 x4 x5 x6;refine (miOkS m ad cap v1 hv1 hl).mono ?_;rintro e v2 ⟨rfl, k2⟩;have A := A.below k2 A.lt;have M := M.below k2 M.lt;have B2 := B1.trans (k2.mono B1.size);clear k2 B1 hv1;cases h2 : miOk m
 ·
  have hN : Hid (R = false) := by unfold Hid; rw [hR.out]; unfold mindsB; rw [h1.out, h2]; rfl
  clear h2;go_wp2
  go_ret
  exact ⟨by rw [hN.out]; rfl, B2⟩
 replace h2 : Hid _ := h2;obtain ⟨x0, x1, x2, x3, x4, x5, x6⟩ := M;obtain ⟨z0, z1, z2⟩ := A;cases h3 : m.up
 ·
  rw [h3] at x0;have hN : Hid (R = false) := by unfold Hid; rw [hR.out]; unfold mindsB; rw [h1.out, h2.out, h3]; rfl
  go_wp2
  go_ret
  exact ⟨by rw [hN.out]; rfl, B2⟩
 rw [h3] at x0;by_cases h4 : s = r.ow
 ·
  have d4 : (s == r.ow) = true := by simpa using h4
  have hN : Hid (R = (m.ep == r.ep)) := by unfold Hid; rw [hR.out]; unfold mindsB; rw [h1.out, h2.out, h3, decide_eq_true h4]; by_cases h5 : m.ep = r.ep <;> simp [h5]
  replace h4 : Hid _ := h4;go_wp2
  go_ret
  exact ⟨by rw [hN.out]; rfl, B2⟩
 have d4 : (s == r.ow) = false := by rw [beq_eq_false_iff_ne]; exact h4
 have hN : Hid (R = false) := by unfold Hid; rw [hR.out]; unfold mindsB; rw [h1.out, h2.out, h3, decide_eq_false h4]; rfl
 clear h4;go_wp2
 go_ret
 exact ⟨by rw [hN.out]; rfl, B2⟩
end Go.Proofs.YtnpiljegdiconaaGreat
namespace Go.Proofs.YtnpiljegdiconaaGreat
open Go.ChangeShapes Go.WideShapes Go.ChangeAt Go.RowKit
open Go.ChangeMaps (open_string shut_string)
set_option linter.unusedVariables false
set_option maxRecDepth 100000
set_option maxHeartbeats 4000000 in
theorem gatesS12r (id : Int) (ad : Option Addr) (cap : Nat) (L : List Pt) (w : World) (hv : FView ptEnc w ad L) (hl : L.length ≤ 1048576) :
  Calls Tryz.prog 74 #[.agg #[.int .i64 id, .slice ad L.length cap]] w fun e w' => ∃ a c, e = .returned (.slice a L.length c) ∧ FOwn boEnc 1 4 w.heap.size w' (.slice a L.length c) (gatesR L) ∧ Below w.heap.size w w' := by
 obtain ⟨j0, hj, hj0, hj1, hj2⟩ := info_parts boInfo;obtain ⟨y, hy⟩ : ∃ y, y = w.alloc (Obj.cells #[.int .i64 id, .slice ad L.length cap] 56) := ⟨_, rfl⟩;have B0 : Below w.heap.size w y := by rw [hy]; exact below_new _
 have A : BrAt y w.heap.size id (.slice ad L.length cap) := by rw [hy]; exact BrAt.new w _ _ _
 have hB := hv.lt ptEnc_len (by omega);have hV := hv.below B0 hB;have hB := hV.lt ptEnc_len (by omega);have S0 := A.lt;clear hv;obtain ⟨y2, hy2⟩ : ∃ y2, y2 = y.alloc (Obj.cells #[] 4) := ⟨_, rfl⟩;have O0 : FOwn boEnc 1 4 y.heap.size y2 (.slice (some ⟨y.heap.size, 0, none⟩) 0 0) (gatesR (L.take 0)) := by
  rw [hy2]; exact FOwn.empty y
 have B1 : Below y.heap.size y y2 := by rw [hy2]; exact below_new _
 go_enter Tryz.func74, Tryz.ntmps74
 go_upto_region 1 with fail
 rw [← hy];clear hy;go_upto_region 2 with fail
 rw [← hy2];clear hy2;go_wp2
 go_loopw [3, 4] (fun v q wr => ∃ k : Nat, k ≤ L.length ∧ q = .int .i64 (k : Int) ∧ FOwn boEnc 1 4 y.heap.size wr v (gatesR (L.take k)) ∧ Below y.heap.size y wr) (fun _ q _ => L.length - (intOf q).toNat)
 case atStart => exact ⟨0, Nat.zero_le _, rfl, O0, B1⟩
 case round =>
  obtain ⟨k, hk1, rfl, O, kb⟩ := hrel;clear O0 B1;have hA := A.below kb S0;obtain ⟨x1, x2⟩ := hA;by_cases hlt : k < L.length
  ·
   have hst := gatesR_take L hlt;obtain ⟨b, off, rfl, _⟩ := hV (by omega);obtain ⟨h, hh⟩ : ∃ h, L.getD k Pt.nil = h := ⟨_, rfl⟩;have hck : PtAtO wr b (off + k * 11) h := by
    rw [← hh];exact ptAtO_of ((hV.below kb hB).at_ ptEnc_len Pt.nil hlt)
   rw [hh] at hst;have hop := hck.c10;clear hck hh;obtain ⟨M, hM⟩ : ∃ M, gatesR (L.take k) = M := ⟨_, rfl⟩;have hMl : M.length ≤ k := by rw [← hM, gatesR_len]; simp; omega
   rw [hM] at O hst;clear hM;obtain ⟨ak, ck2, rfl⟩ := O.open_;replace hst : Hid _ := hst;have V1 := FView.oneB wr 4 h.op;have kx : Below wr.heap.size wr (wr.alloc (Obj.cells #[.bool h.op] 4)) := below_new _;have O4 := O.later kx;have b4 := kb.trans (kx.mono kb.size);have s4 := b4.size;clear kx;go_wp2_with (first | (at_builtin; refine fappL boEnc_len boEnc_ones rfl _ _ 45 rfl y.heap.size 4 j0 (.bool false) 1 Tryz.underlying45 hj hj0 hj1 hj2 rfl (by decide) (by decide) (.slice ak M.length ck2) M rfl O4 (some ⟨wr.heap.size, 0, none⟩) 1 [h.op] rfl (fun e => by cases e) V1 ?z0 ?z1 ?_) | go_in)
   case z0 => first | omega | (simp; omega)
   case z1 => first | omega | (simp; omega)
   intro vZ wZ hownZ hgrowZ _;have hob : ∀ q, (Value.slice ak M.length ck2).ownBlock = some q → y.heap.size ≤ q := fun q e => (O4.lt q e).1
   have bZ : Below y.heap.size y wZ := b4.grown hgrowZ (by exact s4) hob;clear hgrowZ V1 O4 hob O b4;go_wp2
   go_roundw
   case rel => exact ⟨k + 1, by omega, by go_num, by rw [hst.out]; exact hownZ, bZ⟩
   case measure => simp [intOf]; omega
  obtain rfl : k = L.length := by omega
  rw [List.take_length] at O;obtain ⟨ak, ck2, rfl⟩ := O.open_;have OZ := O.base B0.size;rw [gatesR_len] at OZ ⊢;have bZ := B0.trans (kb.mono B0.size);go_wp2
  go_ret
  exact ⟨_, _, rfl, OZ, bZ⟩
theorem gatesS12 (id : Int) (ad : Option Addr) (cap : Nat) (L : List Pt) (w : World) (hv : FView ptEnc w ad L) (hl : L.length ≤ 1048576) :
  Calls Tryz.prog 74 #[.agg #[.int .i64 id, .slice ad L.length cap]] w fun e w' => ∃ a c, e = .returned (.slice a (gatesR L).length c) ∧ FOwn boEnc 1 4 w.heap.size w' (.slice a (gatesR L).length c) (gatesR L) ∧ Below w.heap.size w w' := by
 rw [gatesR_len];exact gatesS12r id ad cap L w hv hl
end Go.Proofs.YtnpiljegdiconaaGreat
