import Derived.Test.YtjmnaeeknomiaaaGreatRKWRe2u
import Derived.Test.YtjmnaeeknomiaaaGreatRKWRe2l
import Derived.Test.YtjmnaeeknomiaaaGreatRKWIn2
import Derived.Test.YtjmnaeeknomiaaaGreatRM7
namespace Go.Proofs.YtjmnaeeknomiaaaGreat
open Go.ChangeShapes Go.WideShapes Go.ChangeAt Go.RowKit
open Go.ChangeMaps (open_string shut_string)
set_option linter.unusedVariables false
set_option maxRecDepth 100000
set_option maxHeartbeats 32000000
set_option linter.unusedSimpArgs false
open Go.Proofs.Tryz
attribute [local go_sem] ji ja ic
theorem H6 {P : Program} {reg : Code} {K : Act → World → Prop} {Q : Exit → Act → World → Prop} {l : List Value} {ds : List Deferred} {W : World} (R : List Value → List Value → World → Prop) (h1 : ∀ l' W', R l l' W' → K ⟨l'.toArray, ds⟩ W') (h2 : ∀ K2 : Act → World → Prop, Hid (∀ l' W', R l l' W' → K2 ⟨l'.toArray, ds⟩ W') → Code.wp P reg (Exit.then K2 Q) ⟨l.toArray, ds⟩ W) : Code.wp P reg (Exit.then K Q) ⟨l.toArray, ds⟩ W := h2 K h1
def DU (id : Int) (L : List Pt) (x : Ik) : Bool := Bl id L && (Ay x && decide (0 ≤ x.q ∧ x.q < (L.length : Int)))
def CR (id : Int) (L : List Pt) (x : Ik) : List Pt := if DU id L x then Dm id L x else L
def Cb (id : Int) (L : List Pt) (x : Ik) : List Ou := if DU id L x then Cz L (Dm id L x) L.length ++ (if x.k = 2 then Cf id (Dm id L x) L.length else []) else []
theorem FN (id : Int) (L : List Pt) (x : Ik) : (CR id L x).length = L.length := by
 unfold CR;split
 ·
  exact Gz id L x
 rfl
theorem JX {x : Ik} (h : Ay x = true) : 0 ≤ x.q ∧ x.q ≤ 3 := by
 unfold Ay at h;split at h
 ·
  simp only [Bool.and_eq_true, decide_eq_true_eq] at h; exact h.1
 split at h
 ·
  simp only [Bool.and_eq_true, decide_eq_true_eq] at h; exact h.1
 split at h
 ·
  simp only [decide_eq_true_eq] at h; omega
 cases h
theorem JY {x : Ik} (h : Ay x = true) : x.k = 1 ∨ x.k = 2 ∨ x.k = 3 := by
 unfold Ay at h;split at h
 ·
  exact .inl (by assumption)
 split at h
 ·
  exact .inr (.inr (by assumption))
 split at h
 ·
  exact .inr (.inl (by assumption))
 cases h
end Go.Proofs.YtjmnaeeknomiaaaGreat
namespace Go.Proofs.YtjmnaeeknomiaaaGreat
open Go.ChangeShapes Go.WideShapes Go.ChangeAt Go.RowKit
open Go.ChangeMaps (open_string shut_string)
set_option linter.unusedVariables false
set_option maxRecDepth 100000
set_option maxHeartbeats 32000000
set_option linter.unusedSimpArgs false
open Go.Proofs.Tryz
theorem IJ {id : Int} {L : List Pt} {x : Ik} (h : Bl id L = false) : CR id L x = L ∧ Cb id L x = [] := by
 unfold CR Cb DU;simp [h]
def DE (id : Int) (L : List Pt) (X : List Ik) : List Pt := X.foldl (CR id) L
theorem I7 (id : Int) (L : List Pt) (X Y : List Ik) : DE id L (X ++ Y) = DE id (DE id L X) Y := by
 unfold DE; rw [List.foldl_append]
theorem HN (id : Int) (X : List Ik) : ∀ L : List Pt, (DE id L X).length = L.length := by
 induction X with
 | nil => intro L; rfl
 | cons x X ih => intro L; show (DE id (CR id L x) X).length = _; rw [ih, FN]
theorem I6 {id : Int} (X : List Ik) : ∀ {L : List Pt}, Bl id L = false → DE id L X = L := by
 induction X with
 | nil => intro L _; rfl
 | cons x X ih => intro L h; show DE id (CR id L x) X = L; rw [(IJ h).1]; exact ih h
theorem If (id : Int) (L : List Pt) (X : List Ik) (d : Ik) {k : Nat} (hk : k < X.length) : DE id L (X.take (k + 1)) = CR id (DE id L (X.take k)) (X.getD k d) := by
 rw [List.take_add_one, I7];have e : X[k]?.toList = [X.getD k d] := by simp [List.getD, hk]
 rw [e]; rfl
def Dn (id : Int) (L : List Pt) (X : List Ik) (d : Ik) (n : Int) : List Ou :=
 if 0 ≤ n ∧ n < (X.length : Int) then Cb id (DE id L (X.take n.toNat)) (X.getD n.toNat d) else []
theorem Iz (id : Int) (L : List Pt) (X : List Ik) (d : Ik) {k : Nat} (hk : k < X.length) : Dn id L X d (k : Int) = Cb id (DE id L (X.take k)) (X.getD k d) := by
 unfold Dn; rw [if_pos ⟨by omega, by omega⟩]; simp
def BA : Ik := ⟨0, 0, 0, 0, 0, 0, 0, false⟩
def Mi.nil : Mi := ⟨false, 0, 0, [], 0, 0, 0⟩
structure Wi where
 fr : Int
 ak : Bool
 li : Int
 n : Int
 x : Ik
structure Bx where
 id : Int
 po : Int
 rg : Rg
 two : List Mi
 net : List Wi
 ga : List Bool
 ln : List Ik
 sd : List Ou
structure De where
 k : Int
 a : Int
 x : Ik
def Db (x : Ik) : Bool := decide (x.k = 0 ∧ x.q = 0 ∧ x.r = 0 ∧ x.c = 0 ∧ x.b = 0 ∧ x.p = 0 ∧ x.h = 0 ∧ x.up = false)
def BI (w : Wi) : Bool := decide (0 ≤ w.fr ∧ w.fr ≤ 1) && (BR w.li && (BR w.n && (if w.ak then Db w.x else Ay w.x)))
def Ab (x : Bx) (s : Int) : Mi := x.two.getD s.toNat Mi.nil
def Aw (x : Bx) : Bool :=
 Aq x.id x.po && (BV x.rg && (decide (x.two.length = 2) && (Au (Ab x 0) && (Au (Ab x 1) && (x.net.all BI && (decide (x.net.length ≤ 20) && (decide ((x.ga.length : Int) = x.po) && (Cn x.ln && decide (x.sd.length ≤ 40)))))))))
theorem Ds {x : Bx} : Aw x = true ↔ Aq x.id x.po = true ∧ BV x.rg = true ∧ x.two.length = 2 ∧ Au (Ab x 0) = true ∧ Au (Ab x 1) = true ∧ x.net.all BI = true ∧ x.net.length ≤ 20 ∧ (x.ga.length : Int) = x.po ∧ Cn x.ln = true ∧ x.sd.length ≤ 40 := by
 unfold Aw;simp only [Bool.and_eq_true, decide_eq_true_eq]
def EK (id po : Int) : Bx := ⟨id, po, ⟨1, 0, 0⟩, [⟨true, 1, 1, [], 0, 0, 0⟩, ⟨true, 2, 0, [], 0, 0, 0⟩], [], (AX id po).map Pt.op, [], []⟩
theorem F6 {id po : Int} (h : Aq id po = true) : Aw (EK id po) = true := by
 refine Ds.2 ⟨h, rfl, rfl, rfl, rfl, rfl, Nat.zero_le _, ?_, rfl, Nat.zero_le _⟩;show (((AX id po).map Pt.op).length : Int) = po;unfold AX;rw [if_pos h];unfold Aq at h;simp only [Bool.and_eq_true, decide_eq_true_eq] at h;simp
 omega
def Bp (x : Bx) (s : Int) : Bool := decide (0 ≤ s ∧ s < (x.two.length : Int)) && Cq x.rg s (Ab x s)
def CS (x : Bx) : Int := if Bp x 0 then 0 else if Bp x 1 then 1 else -1
def Dv (x : Bx) (s : Int) (m : Mi) : Bx := ⟨x.id, x.po, x.rg, x.two.set s.toNat m, x.net, x.ga, x.ln, x.sd⟩
def Cl (x : Bx) (N : List Wi) : Bx := ⟨x.id, x.po, x.rg, x.two, N, x.ga, x.ln, x.sd⟩
def FI (x : Bx) (r : Rg) : Bx := ⟨x.id, x.po, r, x.two, x.net, x.ga, x.ln, x.sd⟩
def CG (G : List Bool) (o : Ou) : List Bool := if o.k = 2 ∧ 0 ≤ o.pt ∧ o.pt < (G.length : Int) then G.set o.pt.toNat o.on else G
theorem E4 (O : List Ou) : ∀ G : List Bool, (O.foldl CG G).length = G.length := by
 induction O with
 | nil => intro G; rfl
 | cons o O ih =>
  intro G;rw [List.foldl_cons, ih];unfold CG;split <;> simp
def DC (O : List Ou) : List Ou := O.drop (O.length - 40)
theorem IL (O : List Ou) : (DC O).length ≤ 40 := by unfold DC; rw [List.length_drop]; omega
def CI (x : Bx) (s : Int) (O : List Ou) : Bx := if Bp x s then ⟨x.id, x.po, x.rg, x.two, x.net, O.foldl CG x.ga, x.ln, DC (x.sd ++ O)⟩ else x
def EQ (x : Bx) (d : De) : Bx × Int :=
 if CS x < 0 ∨ Ay d.x = false ∨ x.po ≤ d.x.q then (x, 3)
 else if DB (Ab x (CS x)) d.x then (Dv x (CS x) (AM (Ab x (CS x)) d.x), 0) else (x, 4)
def Eg (x : Bx) (s : Int) : Int := if (Ab x s).al = (Ab x (1 - s)).li then (Ab x s).ac else 0
def EV (x : Bx) (s : Int) : Bx × Int :=
 if Bp x s = false ∨ ((Ab x s).lg.length : Int) ≤ Eg x s then (x, 3)
 else if 20 ≤ x.net.length then (x, 4)
 else (Cl x (x.net ++ [⟨s, false, (Ab x (1 - s)).li, Eg x s, (Ab x s).lg.getD (Eg x s).toNat BA⟩]), 0)
def Gi (m : Mi) (w : Wi) : Mi := ⟨m.up, m.li, m.ep, m.lg, m.sd, min w.n (m.lg.length : Int), w.li⟩
def Dc (x : Bx) (w : Wi) : Bx := if (Ab x (1 - w.fr)).ep = 0 ∧ w.n = ((Ab x (1 - w.fr)).lg.length : Int) then Dv x (1 - w.fr) (AM (Ab x (1 - w.fr)) w.x) else x
def Cg (x : Bx) (w : Wi) : Bx :=
 if (Ab x (1 - w.fr)).up = false then x
 else if w.ak then
  if Bp x (1 - w.fr) = true ∧ ((Ab x (1 - w.fr)).al < w.li ∨ w.li = (Ab x (1 - w.fr)).al ∧ (Ab x (1 - w.fr)).ac < w.n) then Dv x (1 - w.fr) (Gi (Ab x (1 - w.fr)) w) else x
 else if w.li ≠ (Ab x (1 - w.fr)).li then x
 else if x.net.length < 20 then Cl (Dc x w) (x.net ++ [⟨1 - w.fr, true, (Ab x (1 - w.fr)).li, ((Ab (Dc x w) (1 - w.fr)).lg.length : Int), BA⟩]) else Dc x w
def DK (x : Bx) (d : De) : Bx × Int :=
 if d.a < 0 ∨ (x.net.length : Int) ≤ d.a then (x, 2)
 else if d.k = 5 then
  if 20 ≤ x.net.length then (x, 4) else (Cl x (x.net ++ [x.net.getD d.a.toNat ⟨0, false, 0, 0, BA⟩]), 0)
 else if d.k = 3 then (Cg (Cl x (x.net.take d.a.toNat ++ x.net.drop (d.a.toNat + 1))) (x.net.getD d.a.toNat ⟨0, false, 0, 0, BA⟩), 0)
 else (Cl x (x.net.take d.a.toNat ++ x.net.drop (d.a.toNat + 1)), 0)
def EJ (m : Mi) : Mi := ⟨m.up, m.li, m.ep, m.lg, m.sd + 1, m.ac, m.al⟩
def Du (x : Bx) (n : Int) (y : Ik) : Bx := if (x.ln.length : Int) ≤ n then ⟨x.id, x.po, x.rg, x.two, x.net, x.ga, x.ln ++ [y], x.sd⟩ else x
def ED (x : Bx) : Bx × Int :=
 if CS x < 0 ∨ DY (Ab x (CS x)) x.rg.pa = false then (x, 3)
 else (Dv (Du (CI x (CS x) (Dn (BJ x.id x.po) (AX x.id x.po) (Ab x (CS x)).lg BA (Ab x (CS x)).sd)) (Ab x (CS x)).sd ((Ab x (CS x)).lg.getD (Ab x (CS x)).sd.toNat BA)) (CS x) (EJ (Ab x (CS x))), 0)
def GZ (x : Bx) : Mi := ⟨true, max (Ab x 0).li (Ab x 1).li + 1, 0, [], 0, 0, 0⟩
def Dg (x : Bx) (d : De) : Bx × Int :=
 if d.k = 7 ∧ (Ab x d.a).up = true then (Dv x d.a ⟨false, (Ab x d.a).li, 0, [], 0, 0, 0⟩, 0)
 else if (d.k = 8 ∧ (Ab x d.a).up = false) ∨ (d.k = 12 ∧ (Ab x d.a).up = true ∧ 0 < (Ab x d.a).ep ∧ Bp x d.a = false) then (Dv x d.a (GZ x), 0)
 else (x, 3)
def Hn (x : Bx) (m : Mi) : Mi := ⟨(BP x.rg m).up, (BP x.rg m).li, (BP x.rg m).ep, (BP x.rg m).lg, (x.ln.length : Int), (BP x.rg m).ac, (BP x.rg m).al⟩
def EN (x : Bx) (d : De) : Bx × Int :=
 if d.k = 9 then
  if CM x.rg d.a (Ab x d.a) = false then (x, 3)
  else if (Ab x d.a).lg.length < x.ln.length then (x, 4)
  else (Dv (FI x (CF x.rg d.a)) d.a (Hn x (Ab x d.a)), 0)
 else if DA x.rg d.a (Ab x d.a) (if d.k = 10 then (Ab x d.a).al else 0) then (FI x (DG x.rg d.a (Ab x d.a) (if d.k = 10 then (Ab x d.a).al else 0)), 0)
 else (x, 3)
def Cu (x : Bx) (d : De) : Bx × Int :=
 if d.k = 1 then EQ x d else if d.k = 6 then ED x else if d.k = 3 ∨ d.k = 4 ∨ d.k = 5 then DK x d
 else if d.a < 0 ∨ 1 < d.a then (x, 2)
 else if d.k = 2 then EV x d.a else if d.k = 7 ∨ d.k = 8 ∨ d.k = 12 then Dg x d else EN x d
attribute [local go_sem] ji ja
def Wi.nil : Wi := ⟨0, false, 0, 0, BA⟩
structure AD where
 m : Mi
 ad : Option Addr
 cap : Nat
def AD.nil : AD := ⟨Mi.nil, none, 0⟩
def At (x : Wi) : List Value := [ji x.fr, .bool x.ak, ji x.li, ji x.n, ji x.x.k, ji x.x.q, ji x.x.r, ji x.x.c, ji x.x.b, ji x.x.p, ji x.x.h, .bool x.x.up]
theorem Be (x : Wi) : (At x).length = 12 := rfl
theorem Cy (L : List Wi) : ∀ u ∈ Aa At L, u.oneCell' = true := by
 induction L with
 | nil => intro u h; cases h
 | cons x L ih =>
  intro u h;simp only [Aa, At, List.mem_append, List.mem_cons, List.not_mem_nil, or_false] at h;rcases h with (rfl | rfl | rfl | rfl | rfl | rfl | rfl | rfl | rfl | rfl | rfl | rfl) | h
  ·
   rfl
  ·
   rfl
  ·
   rfl
  ·
   rfl
  ·
   rfl
  ·
   rfl
  ·
   rfl
  ·
   rfl
  ·
   rfl
  ·
   rfl
  ·
   rfl
  ·
   rfl
  exact ih u h
structure CX (w : World) (b o : Nat) (x : Wi) : Prop where
 c0 : w.cell? (ja b o) = some (ji x.fr)
 c1 : w.cell? ⟨b, o + 1, none⟩ = some (.bool x.ak)
 c2 : w.cell? ⟨b, o + 2, none⟩ = some (ji x.li)
 c3 : w.cell? ⟨b, o + 3, none⟩ = some (ji x.n)
 c4 : w.cell? ⟨b, o + 4, none⟩ = some (ji x.x.k)
 c5 : w.cell? ⟨b, o + 5, none⟩ = some (ji x.x.q)
 c6 : w.cell? ⟨b, o + 6, none⟩ = some (ji x.x.r)
 c7 : w.cell? ⟨b, o + 7, none⟩ = some (ji x.x.c)
 c8 : w.cell? ⟨b, o + 8, none⟩ = some (ji x.x.b)
 c9 : w.cell? ⟨b, o + 9, none⟩ = some (ji x.x.p)
 c10 : w.cell? ⟨b, o + 10, none⟩ = some (ji x.x.h)
 c11 : w.cell? ⟨b, o + 11, none⟩ = some (.bool x.x.up)
theorem CX.all {w : World} {b o : Nat} {x : Wi} (h : CX w b o x) : w.cell? (ja b o) = some (ji x.fr) ∧ w.cell? ⟨b, o + 1, none⟩ = some (.bool x.ak) ∧ w.cell? ⟨b, o + 2, none⟩ = some (ji x.li) ∧ w.cell? ⟨b, o + 3, none⟩ = some (ji x.n) ∧ w.cell? ⟨b, o + 4, none⟩ = some (ji x.x.k) ∧ w.cell? ⟨b, o + 5, none⟩ = some (ji x.x.q) ∧ w.cell? ⟨b, o + 6, none⟩ = some (ji x.x.r) ∧ w.cell? ⟨b, o + 7, none⟩ = some (ji x.x.c) ∧ w.cell? ⟨b, o + 8, none⟩ = some (ji x.x.b) ∧ w.cell? ⟨b, o + 9, none⟩ = some (ji x.x.p) ∧ w.cell? ⟨b, o + 10, none⟩ = some (ji x.x.h) ∧ w.cell? ⟨b, o + 11, none⟩ = some (.bool x.x.up) := ⟨h.c0, h.c1, h.c2, h.c3, h.c4, h.c5, h.c6, h.c7, h.c8, h.c9, h.c10, h.c11⟩
theorem E7 {w : World} {b o : Nat} {x : Wi} (h : ∀ j v, (At x)[j]? = some v → w.cell? ⟨b, o + j, none⟩ = some v) : CX w b o x := ⟨h 0 _ rfl, h 1 _ rfl, h 2 _ rfl, h 3 _ rfl, h 4 _ rfl, h 5 _ rfl, h 6 _ rfl, h 7 _ rfl, h 8 _ rfl, h 9 _ rfl, h 10 _ rfl, h 11 _ rfl⟩
def BC (x : AD) : List Value := [.bool x.m.up, ji x.m.li, ji x.m.ep, .slice x.ad x.m.lg.length x.cap, ji x.m.sd, ji x.m.ac, ji x.m.al]
theorem Ai (x : AD) : (BC x).length = 7 := rfl
theorem Ez (L : List AD) : ∀ u ∈ Aa BC L, u.oneCell' = true := by
 induction L with
 | nil => intro u h; cases h
 | cons x L ih =>
  intro u h;simp only [Aa, BC, List.mem_append, List.mem_cons, List.not_mem_nil, or_false] at h;rcases h with (rfl | rfl | rfl | rfl | rfl | rfl | rfl) | h
  ·
   rfl
  ·
   rfl
  ·
   rfl
  ·
   rfl
  ·
   rfl
  ·
   rfl
  ·
   rfl
  exact ih u h
structure A8 (w : World) (b o : Nat) (x : AD) : Prop where
 c0 : w.cell? (ja b o) = some (.bool x.m.up)
 c1 : w.cell? ⟨b, o + 1, none⟩ = some (ji x.m.li)
 c2 : w.cell? ⟨b, o + 2, none⟩ = some (ji x.m.ep)
 c3 : w.cell? ⟨b, o + 3, none⟩ = some (.slice x.ad x.m.lg.length x.cap)
 c4 : w.cell? ⟨b, o + 4, none⟩ = some (ji x.m.sd)
 c5 : w.cell? ⟨b, o + 5, none⟩ = some (ji x.m.ac)
 c6 : w.cell? ⟨b, o + 6, none⟩ = some (ji x.m.al)
theorem A8.all {w : World} {b o : Nat} {x : AD} (h : A8 w b o x) : w.cell? (ja b o) = some (.bool x.m.up) ∧ w.cell? ⟨b, o + 1, none⟩ = some (ji x.m.li) ∧ w.cell? ⟨b, o + 2, none⟩ = some (ji x.m.ep) ∧ w.cell? ⟨b, o + 3, none⟩ = some (.slice x.ad x.m.lg.length x.cap) ∧ w.cell? ⟨b, o + 4, none⟩ = some (ji x.m.sd) ∧ w.cell? ⟨b, o + 5, none⟩ = some (ji x.m.ac) ∧ w.cell? ⟨b, o + 6, none⟩ = some (ji x.m.al) := ⟨h.c0, h.c1, h.c2, h.c3, h.c4, h.c5, h.c6⟩
theorem Bo {w : World} {b o : Nat} {x : AD} (h : ∀ j v, (BC x)[j]? = some v → w.cell? ⟨b, o + j, none⟩ = some v) : A8 w b o x := ⟨h 0 _ rfl, h 1 _ rfl, h 2 _ rfl, h 3 _ rfl, h 4 _ rfl, h 5 _ rfl, h 6 _ rfl⟩
structure AG where
 id : Int
 po : Int
 rg : Rg
 two : List AD
 aT : Option Addr
 cT : Nat
 net : List Wi
 aN : Option Addr
 cN : Nat
 ga : List Bool
 aG : Option Addr
 cG : Nat
 ln : List Ik
 aL : Option Addr
 cL : Nat
 sd : List Ou
 aS : Option Addr
 cS : Nat
abbrev bc (x : AG) : Array Value := #[ji x.id, ji x.po, ji x.rg.ep, ji x.rg.ow, ji x.rg.pa, .slice x.aT x.two.length x.cT, .slice x.aN x.net.length x.cN, .slice x.aG x.ga.length x.cG, .slice x.aL x.ln.length x.cL, .slice x.aS x.sd.length x.cS]
attribute [local go_sem] bc
def AG.p (x : AG) : Bx := ⟨x.id, x.po, x.rg, x.two.map AD.m, x.net, x.ga, x.ln, x.sd⟩
structure AS (w : World) (q : Nat) (x : AG) : Prop where
 c0 : w.cell? (ja q 0) = some (ji x.id)
 c1 : w.cell? (ja q 1) = some (ji x.po)
 c2 : w.cell? (ja q 2) = some (ji x.rg.ep)
 c3 : w.cell? (ja q 3) = some (ji x.rg.ow)
 c4 : w.cell? (ja q 4) = some (ji x.rg.pa)
 c5 : w.cell? (ja q 5) = some (.slice x.aT x.two.length x.cT)
 c6 : w.cell? (ja q 6) = some (.slice x.aN x.net.length x.cN)
 c7 : w.cell? (ja q 7) = some (.slice x.aG x.ga.length x.cG)
 c8 : w.cell? (ja q 8) = some (.slice x.aL x.ln.length x.cL)
 c9 : w.cell? (ja q 9) = some (.slice x.aS x.sd.length x.cS)
theorem AS.all {w : World} {q : Nat} {x : AG} (h : AS w q x) : w.cell? (ja q 0) = some (ji x.id) ∧ w.cell? (ja q 1) = some (ji x.po) ∧ w.cell? (ja q 2) = some (ji x.rg.ep) ∧ w.cell? (ja q 3) = some (ji x.rg.ow) ∧ w.cell? (ja q 4) = some (ji x.rg.pa) ∧ w.cell? (ja q 5) = some (.slice x.aT x.two.length x.cT) ∧ w.cell? (ja q 6) = some (.slice x.aN x.net.length x.cN) ∧ w.cell? (ja q 7) = some (.slice x.aG x.ga.length x.cG) ∧ w.cell? (ja q 8) = some (.slice x.aL x.ln.length x.cL) ∧ w.cell? (ja q 9) = some (.slice x.aS x.sd.length x.cS) := ⟨h.c0, h.c1, h.c2, h.c3, h.c4, h.c5, h.c6, h.c7, h.c8, h.c9⟩
theorem AS.keep {w w' : World} {q : Nat} {x : AG} (h : AS w q x) (k : w'.heap[q]? = w.heap[q]?) : AS w' q x :=
 ⟨(World.cell?_of_block (a := (ja q 0)) k).trans h.c0, (World.cell?_of_block (a := (ja q 1)) k).trans h.c1, (World.cell?_of_block (a := (ja q 2)) k).trans h.c2, (World.cell?_of_block (a := (ja q 3)) k).trans h.c3, (World.cell?_of_block (a := (ja q 4)) k).trans h.c4, (World.cell?_of_block (a := (ja q 5)) k).trans h.c5, (World.cell?_of_block (a := (ja q 6)) k).trans h.c6, (World.cell?_of_block (a := (ja q 7)) k).trans h.c7, (World.cell?_of_block (a := (ja q 8)) k).trans h.c8, (World.cell?_of_block (a := (ja q 9)) k).trans h.c9⟩
theorem AS.below {w w' : World} {q n : Nat} {x : AG} (h : AS w q x) (k : Below n w w') (hq : q < n) : AS w' q x := h.keep (k.block q hq)
theorem AS.lt {w : World} {q : Nat} {x : AG} (h : AS w q x) : q < w.heap.size := World.block_lt_of_cell? w _ h.c0
theorem AS.new (w : World) (t : TypeId) (x : AG) : AS (w.alloc (Obj.cells (bc x) t)) w.heap.size x := by
 refine ⟨?_, ?_, ?_, ?_, ?_, ?_, ?_, ?_, ?_, ?_⟩ <;> simp [go_sem]
structure BT (w : World) (x : AG) : Prop where
 t : AH BC w x.aT x.two
 l : ∀ i, i < x.two.length → AH AO w (x.two.getD i AD.nil).ad (x.two.getD i AD.nil).m.lg
 n : AH At w x.aN x.net
 g : AH Az w x.aG x.ga
 i : AH AO w x.aL x.ln
 s : AH Ag w x.aS x.sd
 bt : x.two.length ≤ 1048576
 bl : ∀ i, i < x.two.length → (x.two.getD i AD.nil).m.lg.length ≤ 1048576
 bn : x.net.length ≤ 1048576
 bg : x.ga.length ≤ 1048576
 bi : x.ln.length ≤ 1048576
 bs : x.sd.length ≤ 1048576
 ct : x.two.length ≤ x.cT
theorem BT.later {w w' : World} {x : AG} (h : BT w x) (k : Bw w w') : BT w' x :=
 ⟨h.t.below k (h.t.lt Ai (by omega)), fun i hi => (h.l i hi).below k ((h.l i hi).lt AT (by omega)), h.n.below k (h.n.lt Be (by omega)), h.g.below k (h.g.lt Bj (by omega)), h.i.below k (h.i.lt AT (by omega)), h.s.below k (h.s.lt BN (by omega)), h.bt, h.bl, h.bn, h.bg, h.bi, h.bs, h.ct⟩
theorem Br (x : AG) (s : Int) : Ab x.p s = (x.two.getD s.toNat AD.nil).m := by
 unfold Ab AG.p;simp only [List.getD, List.getElem?_map];cases x.two[s.toNat]? <;> rfl
end Go.Proofs.YtjmnaeeknomiaaaGreat
