import Derived.Test.YtjmnaeeknomiaaaGreatDoorRM10
import Derived.Test.YtjmnaeeknomiaaaGreatDoorRM9
namespace Go.Proofs.YtjmnaeeknomiaaaGreatDoor
open Go.ChangeShapes Go.WideShapes Go.ChangeAt Go.RowKit
open Go.ChangeMaps (open_string shut_string)
set_option linter.unusedVariables false
set_option maxRecDepth 100000
set_option maxHeartbeats 32000000
set_option linter.unusedSimpArgs false
open Go.Proofs.Tryz
attribute [local go_sem] ji ja pc
structure AU (g B : Nat) (a w : World) : Prop where
 size : a.heap.size ≤ w.heap.size
 block : ∀ k, k < B → k ≠ g → w.heap[k]? = a.heap[k]?
theorem AU.of {g B : Nat} {a w : World} (h : Below B a w) : AU g B a w := ⟨h.size, fun k hk _ => h.block k hk⟩
theorem AU.putAll {g B o : Nat} {a w : World} (vs : List Value) (h : AU g B a w) : AU g B a (Cg w g o vs) :=
 ⟨by rw [Iz]; exact h.size, fun k hk hne => by rw [DH _ _ _ _ hne]; exact h.block k hk hne⟩
theorem Bg.bar {g B q : Nat} {a w : World} {x : Pt} (h : Bg a q x) (k : AU g B a w) (hq : q < B) (hne : q ≠ g) : Bg w q x := h.keep (k.block q hq hne)
theorem Ap.bar {g B q : Nat} {a w : World} {id : Int} {v : Value} (h : Ap a q id v) (k : AU g B a w) (hq : q < B) (hne : q ≠ g) : Ap w q id v := h.keep (k.block q hq hne)
theorem GB (x : Pt) (role : Int) : Bo x role = EO x role := by
 unfold EO;cases hu : x.up
 ·
  unfold Bo; rw [hu]; simp
 simp
theorem AA.row {X : Type} {enc : X → List Value} {n : Nat} {T : TypeId} {base : Nat} {w : World} {ad : Option Addr} {len cap : Nat} {L : List X} (h : AA enc n T base w (.slice ad len cap) L) (h0 : 0 < L.length) : ∃ g, ad = some (ja g 0) ∧ base ≤ g ∧ g < w.heap.size := by
 rcases h.2 with ⟨_, q⟩ | ⟨g, c, cur, q, _⟩
 ·
  omega
 simp only [Value.slice.injEq] at q;obtain ⟨rfl, rfl, rfl⟩ := q;have := h.lt g rfl;exact ⟨g, rfl, this⟩
end Go.Proofs.YtjmnaeeknomiaaaGreatDoor
namespace Go.Proofs.YtjmnaeeknomiaaaGreatDoor
open Go.ChangeShapes Go.WideShapes Go.ChangeAt Go.RowKit
open Go.ChangeMaps (open_string shut_string)
set_option linter.unusedVariables false
set_option maxRecDepth 100000
set_option maxHeartbeats 32000000
set_option linter.unusedSimpArgs false
open Go.Proofs.Tryz
attribute [local go_sem] ji ja pc
def Ds (id : Int) (L : List Pt) (x : Ik) : List Pt :=
 if x.k = 1 then BQ id (L.set x.q.toNat (Bf (L.getD x.q.toNat Pt.nil) x.r x.c x.b x.p x.h))
 else if x.k = 2 then BQ id (L.map CF)
 else if (L.getD x.q.toNat Pt.nil).up = x.up then L else BQ id (L.set x.q.toNat (DW x.up))
theorem HR (id : Int) (L : List Pt) (x : Ik) : (Ds id L x).length = L.length := by
 unfold Ds;split
 ·
  rw [Fm, List.length_set]
 split
 ·
  rw [Fm, List.length_map]
 split
 ·
  rfl
 rw [Fm, List.length_set]
end Go.Proofs.YtjmnaeeknomiaaaGreatDoor
namespace Go.Proofs.YtjmnaeeknomiaaaGreatDoor
open Go.ChangeShapes Go.WideShapes Go.ChangeAt Go.RowKit
open Go.ChangeMaps (open_string shut_string)
set_option linter.unusedVariables false
set_option maxRecDepth 100000
set_option maxHeartbeats 32000000
set_option linter.unusedSimpArgs false
open Go.Proofs.Tryz
attribute [local go_sem] ji ja
attribute [local go_sem] ic
theorem I1 {P : Program} {reg : Code} {K : Act → World → Prop} {Q : Exit → Act → World → Prop} {l : List Value} {ds : List Deferred} {W : World} (R : List Value → List Value → World → Prop) (h1 : ∀ l' W', R l l' W' → K ⟨l'.toArray, ds⟩ W') (h2 : ∀ K2 : Act → World → Prop, Hid (∀ l' W', R l l' W' → K2 ⟨l'.toArray, ds⟩ W') → Code.wp P reg (Exit.then K2 Q) ⟨l.toArray, ds⟩ W) : Code.wp P reg (Exit.then K Q) ⟨l.toArray, ds⟩ W := h2 K h1
def Da (id : Int) (L : List Pt) (x : Ik) : Bool := Az id L && (CR x && decide (0 ≤ x.q ∧ x.q < (L.length : Int)))
def CG (id : Int) (L : List Pt) (x : Ik) : List Pt := if Da id L x then Ds id L x else L
def Cn (id : Int) (L : List Pt) (x : Ik) : List Ou := if Da id L x then DI L (Ds id L x) L.length ++ (if x.k = 2 then Cm id (Ds id L x) L.length else []) else []
theorem Fx (id : Int) (L : List Pt) (x : Ik) : (CG id L x).length = L.length := by
 unfold CG;split
 ·
  exact HR id L x
 rfl
theorem Ko {x : Ik} (h : CR x = true) : 0 ≤ x.q ∧ x.q ≤ 3 := by
 unfold CR at h;split at h
 ·
  simp only [Bool.and_eq_true, decide_eq_true_eq] at h; exact h.1
 split at h
 ·
  simp only [Bool.and_eq_true, decide_eq_true_eq] at h; exact h.1
 split at h
 ·
  simp only [decide_eq_true_eq] at h; omega
 cases h
theorem Kp {x : Ik} (h : CR x = true) : x.k = 1 ∨ x.k = 2 ∨ x.k = 3 := by
 unfold CR at h;split at h
 ·
  exact .inl (by assumption)
 split at h
 ·
  exact .inr (.inr (by assumption))
 split at h
 ·
  exact .inr (.inl (by assumption))
 cases h
end Go.Proofs.YtjmnaeeknomiaaaGreatDoor
namespace Go.Proofs.YtjmnaeeknomiaaaGreatDoor
open Go.ChangeShapes Go.WideShapes Go.ChangeAt Go.RowKit
open Go.ChangeMaps (open_string shut_string)
set_option linter.unusedVariables false
set_option maxRecDepth 100000
set_option maxHeartbeats 32000000
set_option linter.unusedSimpArgs false
open Go.Proofs.Tryz
theorem JK {id : Int} {L : List Pt} {x : Ik} (h : Az id L = false) : CG id L x = L ∧ Cn id L x = [] := by
 unfold CG Cn Da;simp [h]
def Db (id : Int) (L : List Pt) (X : List Ik) : List Pt := X.foldl (CG id) L
theorem KU (id : Int) (L : List Pt) (X Y : List Ik) : Db id L (X ++ Y) = Db id (Db id L X) Y := by
 unfold Db; rw [List.foldl_append]
theorem H5 (id : Int) (X : List Ik) : ∀ L : List Pt, (Db id L X).length = L.length := by
 induction X with
 | nil => intro L; rfl
 | cons x X ih => intro L; show (Db id (CG id L x) X).length = _; rw [ih, Fx]
theorem KT {id : Int} (X : List Ik) : ∀ {L : List Pt}, Az id L = false → Db id L X = L := by
 induction X with
 | nil => intro L _; rfl
 | cons x X ih => intro L h; show Db id (CG id L x) X = L; rw [(JK h).1]; exact ih h
theorem Jp (id : Int) (L : List Pt) (X : List Ik) (d : Ik) {k : Nat} (hk : k < X.length) : Db id L (X.take (k + 1)) = CG id (Db id L (X.take k)) (X.getD k d) := by
 rw [List.take_add_one, KU];have e : X[k]?.toList = [X.getD k d] := by simp [List.getD, hk]
 rw [e]; rfl
def EI (id : Int) (L : List Pt) (X : List Ik) (d : Ik) (n : Int) : List Ou :=
 if 0 ≤ n ∧ n < (X.length : Int) then Cn id (Db id L (X.take n.toNat)) (X.getD n.toNat d) else []
theorem KO (id : Int) (L : List Pt) (X : List Ik) (d : Ik) {k : Nat} (hk : k < X.length) : EI id L X d (k : Int) = Cn id (Db id L (X.take k)) (X.getD k d) := by
 unfold EI; rw [if_pos ⟨by omega, by omega⟩]; simp
def Ar : Ik := ⟨0, 0, 0, 0, 0, 0, 0, false⟩
def Mi.nil : Mi := ⟨false, 0, 0, [], 0, 0, 0⟩
structure Wi where
 fr : Int
 ak : Bool
 li : Int
 n : Int
 x : Ik
structure Bx where
 id : Int
 po : Int
 rg : Rg
 two : List Mi
 net : List Wi
 ga : List Bool
 ln : List Ik
 sd : List Ou
structure De where
 k : Int
 a : Int
 x : Ik
def Fd (x : Ik) : Bool := decide (x.k = 0 ∧ x.q = 0 ∧ x.r = 0 ∧ x.c = 0 ∧ x.b = 0 ∧ x.p = 0 ∧ x.h = 0 ∧ x.up = false)
def Bl (w : Wi) : Bool := decide (0 ≤ w.fr ∧ w.fr ≤ 1) && (CK w.li && (CK w.n && (if w.ak then Fd w.x else CR w.x)))
def AZ (x : Bx) (s : Int) : Mi := x.two.getD s.toNat Mi.nil
def BA (x : Bx) : Bool :=
 Au x.id x.po && (CB x.rg && (decide (x.two.length = 2) && (BM (AZ x 0) && (BM (AZ x 1) && (x.net.all Bl && (decide (x.net.length ≤ 20) && (decide ((x.ga.length : Int) = x.po) && (DN x.ln && decide (x.sd.length ≤ 40)))))))))
theorem Eb {x : Bx} : BA x = true ↔ Au x.id x.po = true ∧ CB x.rg = true ∧ x.two.length = 2 ∧ BM (AZ x 0) = true ∧ BM (AZ x 1) = true ∧ x.net.all Bl = true ∧ x.net.length ≤ 20 ∧ (x.ga.length : Int) = x.po ∧ DN x.ln = true ∧ x.sd.length ≤ 40 := by
 unfold BA;simp only [Bool.and_eq_true, decide_eq_true_eq]
def Fb (id po : Int) : Bx := ⟨id, po, ⟨1, 0, 0⟩, [⟨true, 1, 1, [], 0, 0, 0⟩, ⟨true, 2, 0, [], 0, 0, 0⟩], [], (Ao id po).map Pt.op, [], []⟩
theorem Hp {id po : Int} (h : Au id po = true) : BA (Fb id po) = true := by
 refine Eb.2 ⟨h, rfl, rfl, rfl, rfl, rfl, Nat.zero_le _, ?_, rfl, Nat.zero_le _⟩;show (((Ao id po).map Pt.op).length : Int) = po;unfold Ao;rw [if_pos h];unfold Au at h;simp only [Bool.and_eq_true, decide_eq_true_eq] at h;simp
 omega
def Ct (x : Bx) (s : Int) : Bool := decide (0 ≤ s ∧ s < (x.two.length : Int)) && EP x.rg s (AZ x s)
def CV (x : Bx) : Int := if Ct x 0 then 0 else if Ct x 1 then 1 else -1
def ES (x : Bx) (s : Int) (m : Mi) : Bx := ⟨x.id, x.po, x.rg, x.two.set s.toNat m, x.net, x.ga, x.ln, x.sd⟩
def Cr (x : Bx) (N : List Wi) : Bx := ⟨x.id, x.po, x.rg, x.two, N, x.ga, x.ln, x.sd⟩
def Ft (x : Bx) (r : Rg) : Bx := ⟨x.id, x.po, r, x.two, x.net, x.ga, x.ln, x.sd⟩
def Ed (G : List Bool) (o : Ou) : List Bool := if o.k = 2 ∧ 0 ≤ o.pt ∧ o.pt < (G.length : Int) then G.set o.pt.toNat o.on else G
theorem Ha (O : List Ou) : ∀ G : List Bool, (O.foldl Ed G).length = G.length := by
 induction O with
 | nil => intro G; rfl
 | cons o O ih =>
  intro G;rw [List.foldl_cons, ih];unfold Ed;split <;> simp
def Ey (O : List Ou) : List Ou := O.drop (O.length - 40)
theorem JM (O : List Ou) : (Ey O).length ≤ 40 := by unfold Ey; rw [List.length_drop]; omega
def Cd (x : Bx) (s : Int) (O : List Ou) : Bx := if Ct x s then ⟨x.id, x.po, x.rg, x.two, x.net, O.foldl Ed x.ga, x.ln, Ey (x.sd ++ O)⟩ else x
def Eu (x : Bx) (d : De) : Bx × Int :=
 if CV x < 0 ∨ CR d.x = false ∨ x.po ≤ d.x.q then (x, 3)
 else if DU (AZ x (CV x)) d.x then (ES x (CV x) (AN (AZ x (CV x)) d.x), 0) else (x, 4)
def FI (x : Bx) (s : Int) : Int := if (AZ x s).al = (AZ x (1 - s)).li then (AZ x s).ac else 0
def Ew (x : Bx) (s : Int) : Bx × Int :=
 if Ct x s = false ∨ ((AZ x s).lg.length : Int) ≤ FI x s then (x, 3)
 else if 20 ≤ x.net.length then (x, 4)
 else (Cr x (x.net ++ [⟨s, false, (AZ x (1 - s)).li, FI x s, (AZ x s).lg.getD (FI x s).toNat Ar⟩]), 0)
def G9 (m : Mi) (w : Wi) : Mi := ⟨m.up, m.li, m.ep, m.lg, m.sd, min w.n (m.lg.length : Int), w.li⟩
def Du (x : Bx) (w : Wi) : Bx := if (AZ x (1 - w.fr)).ep = 0 ∧ w.n = ((AZ x (1 - w.fr)).lg.length : Int) then ES x (1 - w.fr) (AN (AZ x (1 - w.fr)) w.x) else x
def Co (x : Bx) (w : Wi) : Bx :=
 if (AZ x (1 - w.fr)).up = false then x
 else if w.ak then
  if Ct x (1 - w.fr) = true ∧ ((AZ x (1 - w.fr)).al < w.li ∨ w.li = (AZ x (1 - w.fr)).al ∧ (AZ x (1 - w.fr)).ac < w.n) then ES x (1 - w.fr) (G9 (AZ x (1 - w.fr)) w) else x
 else if w.li ≠ (AZ x (1 - w.fr)).li then x
 else if x.net.length < 20 then Cr (Du x w) (x.net ++ [⟨1 - w.fr, true, (AZ x (1 - w.fr)).li, ((AZ (Du x w) (1 - w.fr)).lg.length : Int), Ar⟩]) else Du x w
def Dh (x : Bx) (d : De) : Bx × Int :=
 if d.a < 0 ∨ (x.net.length : Int) ≤ d.a then (x, 2)
 else if d.k = 5 then
  if 20 ≤ x.net.length then (x, 4) else (Cr x (x.net ++ [x.net.getD d.a.toNat ⟨0, false, 0, 0, Ar⟩]), 0)
 else if d.k = 3 then (Co (Cr x (x.net.take d.a.toNat ++ x.net.drop (d.a.toNat + 1))) (x.net.getD d.a.toNat ⟨0, false, 0, 0, Ar⟩), 0)
 else (Cr x (x.net.take d.a.toNat ++ x.net.drop (d.a.toNat + 1)), 0)
def El (m : Mi) : Mi := ⟨m.up, m.li, m.ep, m.lg, m.sd + 1, m.ac, m.al⟩
def ER (x : Bx) (n : Int) (y : Ik) : Bx := if (x.ln.length : Int) ≤ n then ⟨x.id, x.po, x.rg, x.two, x.net, x.ga, x.ln ++ [y], x.sd⟩ else x
def Ef (x : Bx) : Bx × Int :=
 if CV x < 0 ∨ Dr (AZ x (CV x)) x.rg.pa = false then (x, 3)
 else (ES (ER (Cd x (CV x) (EI (Bp x.id x.po) (Ao x.id x.po) (AZ x (CV x)).lg Ar (AZ x (CV x)).sd)) (AZ x (CV x)).sd ((AZ x (CV x)).lg.getD (AZ x (CV x)).sd.toNat Ar)) (CV x) (El (AZ x (CV x))), 0)
def G1 (x : Bx) : Mi := ⟨true, max (AZ x 0).li (AZ x 1).li + 1, 0, [], 0, 0, 0⟩
def Dw (x : Bx) (d : De) : Bx × Int :=
 if d.k = 7 ∧ (AZ x d.a).up = true then (ES x d.a ⟨false, (AZ x d.a).li, 0, [], 0, 0, 0⟩, 0)
 else if (d.k = 8 ∧ (AZ x d.a).up = false) ∨ (d.k = 12 ∧ (AZ x d.a).up = true ∧ 0 < (AZ x d.a).ep ∧ Ct x d.a = false) then (ES x d.a (G1 x), 0)
 else (x, 3)
def Ib (x : Bx) (m : Mi) : Mi := ⟨(BO x.rg m).up, (BO x.rg m).li, (BO x.rg m).ep, (BO x.rg m).lg, (x.ln.length : Int), (BO x.rg m).ac, (BO x.rg m).al⟩
def Eo (x : Bx) (d : De) : Bx × Int :=
 if d.k = 9 then
  if CM x.rg d.a (AZ x d.a) = false then (x, 3)
  else if (AZ x d.a).lg.length < x.ln.length then (x, 4)
  else (ES (Ft x (CH x.rg d.a)) d.a (Ib x (AZ x d.a)), 0)
 else if DT x.rg d.a (AZ x d.a) (if d.k = 10 then (AZ x d.a).al else 0) then (Ft x (Df x.rg d.a (AZ x d.a) (if d.k = 10 then (AZ x d.a).al else 0)), 0)
 else (x, 3)
def DE (x : Bx) (d : De) : Bx × Int :=
 if d.k = 1 then Eu x d else if d.k = 6 then Ef x else if d.k = 3 ∨ d.k = 4 ∨ d.k = 5 then Dh x d
 else if d.a < 0 ∨ 1 < d.a then (x, 2)
 else if d.k = 2 then Ew x d.a else if d.k = 7 ∨ d.k = 8 ∨ d.k = 12 then Dw x d else Eo x d
attribute [local go_sem] ji ja
def Wi.nil : Wi := ⟨0, false, 0, 0, Ar⟩
structure AD where
 m : Mi
 ad : Option Addr
 cap : Nat
def AD.nil : AD := ⟨Mi.nil, none, 0⟩
def As (x : Wi) : List Value := [ji x.fr, .bool x.ak, ji x.li, ji x.n, ji x.x.k, ji x.x.q, ji x.x.r, ji x.x.c, ji x.x.b, ji x.x.p, ji x.x.h, .bool x.x.up]
theorem CY (x : Wi) : (As x).length = 12 := rfl
theorem DR (L : List Wi) : ∀ u ∈ AT As L, u.oneCell' = true := by
 induction L with
 | nil => intro u h; cases h
 | cons x L ih =>
  intro u h;simp only [AT, As, List.mem_append, List.mem_cons, List.not_mem_nil, or_false] at h;rcases h with (rfl | rfl | rfl | rfl | rfl | rfl | rfl | rfl | rfl | rfl | rfl | rfl) | h
  ·
   rfl
  ·
   rfl
  ·
   rfl
  ·
   rfl
  ·
   rfl
  ·
   rfl
  ·
   rfl
  ·
   rfl
  ·
   rfl
  ·
   rfl
  ·
   rfl
  ·
   rfl
  exact ih u h
structure Cw (w : World) (b o : Nat) (x : Wi) : Prop where
 c0 : w.cell? (ja b o) = some (ji x.fr)
 c1 : w.cell? ⟨b, o + 1, none⟩ = some (.bool x.ak)
 c2 : w.cell? ⟨b, o + 2, none⟩ = some (ji x.li)
 c3 : w.cell? ⟨b, o + 3, none⟩ = some (ji x.n)
 c4 : w.cell? ⟨b, o + 4, none⟩ = some (ji x.x.k)
 c5 : w.cell? ⟨b, o + 5, none⟩ = some (ji x.x.q)
 c6 : w.cell? ⟨b, o + 6, none⟩ = some (ji x.x.r)
 c7 : w.cell? ⟨b, o + 7, none⟩ = some (ji x.x.c)
 c8 : w.cell? ⟨b, o + 8, none⟩ = some (ji x.x.b)
 c9 : w.cell? ⟨b, o + 9, none⟩ = some (ji x.x.p)
 c10 : w.cell? ⟨b, o + 10, none⟩ = some (ji x.x.h)
 c11 : w.cell? ⟨b, o + 11, none⟩ = some (.bool x.x.up)
theorem Cw.all {w : World} {b o : Nat} {x : Wi} (h : Cw w b o x) : w.cell? (ja b o) = some (ji x.fr) ∧ w.cell? ⟨b, o + 1, none⟩ = some (.bool x.ak) ∧ w.cell? ⟨b, o + 2, none⟩ = some (ji x.li) ∧ w.cell? ⟨b, o + 3, none⟩ = some (ji x.n) ∧ w.cell? ⟨b, o + 4, none⟩ = some (ji x.x.k) ∧ w.cell? ⟨b, o + 5, none⟩ = some (ji x.x.q) ∧ w.cell? ⟨b, o + 6, none⟩ = some (ji x.x.r) ∧ w.cell? ⟨b, o + 7, none⟩ = some (ji x.x.c) ∧ w.cell? ⟨b, o + 8, none⟩ = some (ji x.x.b) ∧ w.cell? ⟨b, o + 9, none⟩ = some (ji x.x.p) ∧ w.cell? ⟨b, o + 10, none⟩ = some (ji x.x.h) ∧ w.cell? ⟨b, o + 11, none⟩ = some (.bool x.x.up) := ⟨h.c0, h.c1, h.c2, h.c3, h.c4, h.c5, h.c6, h.c7, h.c8, h.c9, h.c10, h.c11⟩
theorem He {w : World} {b o : Nat} {x : Wi} (h : ∀ j v, (As x)[j]? = some v → w.cell? ⟨b, o + j, none⟩ = some v) : Cw w b o x := ⟨h 0 _ rfl, h 1 _ rfl, h 2 _ rfl, h 3 _ rfl, h 4 _ rfl, h 5 _ rfl, h 6 _ rfl, h 7 _ rfl, h 8 _ rfl, h 9 _ rfl, h 10 _ rfl, h 11 _ rfl⟩
def BG (x : AD) : List Value := [.bool x.m.up, ji x.m.li, ji x.m.ep, .slice x.ad x.m.lg.length x.cap, ji x.m.sd, ji x.m.ac, ji x.m.al]
theorem BC (x : AD) : (BG x).length = 7 := rfl
theorem JA (L : List AD) : ∀ u ∈ AT BG L, u.oneCell' = true := by
 induction L with
 | nil => intro u h; cases h
 | cons x L ih =>
  intro u h;simp only [AT, BG, List.mem_append, List.mem_cons, List.not_mem_nil, or_false] at h;rcases h with (rfl | rfl | rfl | rfl | rfl | rfl | rfl) | h
  ·
   rfl
  ·
   rfl
  ·
   rfl
  ·
   rfl
  ·
   rfl
  ·
   rfl
  ·
   rfl
  exact ih u h
structure BL (w : World) (b o : Nat) (x : AD) : Prop where
 c0 : w.cell? (ja b o) = some (.bool x.m.up)
 c1 : w.cell? ⟨b, o + 1, none⟩ = some (ji x.m.li)
 c2 : w.cell? ⟨b, o + 2, none⟩ = some (ji x.m.ep)
 c3 : w.cell? ⟨b, o + 3, none⟩ = some (.slice x.ad x.m.lg.length x.cap)
 c4 : w.cell? ⟨b, o + 4, none⟩ = some (ji x.m.sd)
 c5 : w.cell? ⟨b, o + 5, none⟩ = some (ji x.m.ac)
 c6 : w.cell? ⟨b, o + 6, none⟩ = some (ji x.m.al)
theorem BL.all {w : World} {b o : Nat} {x : AD} (h : BL w b o x) : w.cell? (ja b o) = some (.bool x.m.up) ∧ w.cell? ⟨b, o + 1, none⟩ = some (ji x.m.li) ∧ w.cell? ⟨b, o + 2, none⟩ = some (ji x.m.ep) ∧ w.cell? ⟨b, o + 3, none⟩ = some (.slice x.ad x.m.lg.length x.cap) ∧ w.cell? ⟨b, o + 4, none⟩ = some (ji x.m.sd) ∧ w.cell? ⟨b, o + 5, none⟩ = some (ji x.m.ac) ∧ w.cell? ⟨b, o + 6, none⟩ = some (ji x.m.al) := ⟨h.c0, h.c1, h.c2, h.c3, h.c4, h.c5, h.c6⟩
theorem CZ {w : World} {b o : Nat} {x : AD} (h : ∀ j v, (BG x)[j]? = some v → w.cell? ⟨b, o + j, none⟩ = some v) : BL w b o x := ⟨h 0 _ rfl, h 1 _ rfl, h 2 _ rfl, h 3 _ rfl, h 4 _ rfl, h 5 _ rfl, h 6 _ rfl⟩
structure AF where
 id : Int
 po : Int
 rg : Rg
 two : List AD
 aT : Option Addr
 cT : Nat
 net : List Wi
 aN : Option Addr
 cN : Nat
 ga : List Bool
 aG : Option Addr
 cG : Nat
 ln : List Ik
 aL : Option Addr
 cL : Nat
 sd : List Ou
 aS : Option Addr
 cS : Nat
abbrev bc (x : AF) : Array Value := #[ji x.id, ji x.po, ji x.rg.ep, ji x.rg.ow, ji x.rg.pa, .slice x.aT x.two.length x.cT, .slice x.aN x.net.length x.cN, .slice x.aG x.ga.length x.cG, .slice x.aL x.ln.length x.cL, .slice x.aS x.sd.length x.cS]
attribute [local go_sem] bc
def AF.p (x : AF) : Bx := ⟨x.id, x.po, x.rg, x.two.map AD.m, x.net, x.ga, x.ln, x.sd⟩
structure Af (w : World) (q : Nat) (x : AF) : Prop where
 c0 : w.cell? (ja q 0) = some (ji x.id)
 c1 : w.cell? (ja q 1) = some (ji x.po)
 c2 : w.cell? (ja q 2) = some (ji x.rg.ep)
 c3 : w.cell? (ja q 3) = some (ji x.rg.ow)
 c4 : w.cell? (ja q 4) = some (ji x.rg.pa)
 c5 : w.cell? (ja q 5) = some (.slice x.aT x.two.length x.cT)
 c6 : w.cell? (ja q 6) = some (.slice x.aN x.net.length x.cN)
 c7 : w.cell? (ja q 7) = some (.slice x.aG x.ga.length x.cG)
 c8 : w.cell? (ja q 8) = some (.slice x.aL x.ln.length x.cL)
 c9 : w.cell? (ja q 9) = some (.slice x.aS x.sd.length x.cS)
theorem Af.all {w : World} {q : Nat} {x : AF} (h : Af w q x) : w.cell? (ja q 0) = some (ji x.id) ∧ w.cell? (ja q 1) = some (ji x.po) ∧ w.cell? (ja q 2) = some (ji x.rg.ep) ∧ w.cell? (ja q 3) = some (ji x.rg.ow) ∧ w.cell? (ja q 4) = some (ji x.rg.pa) ∧ w.cell? (ja q 5) = some (.slice x.aT x.two.length x.cT) ∧ w.cell? (ja q 6) = some (.slice x.aN x.net.length x.cN) ∧ w.cell? (ja q 7) = some (.slice x.aG x.ga.length x.cG) ∧ w.cell? (ja q 8) = some (.slice x.aL x.ln.length x.cL) ∧ w.cell? (ja q 9) = some (.slice x.aS x.sd.length x.cS) := ⟨h.c0, h.c1, h.c2, h.c3, h.c4, h.c5, h.c6, h.c7, h.c8, h.c9⟩
theorem Af.keep {w w' : World} {q : Nat} {x : AF} (h : Af w q x) (k : w'.heap[q]? = w.heap[q]?) : Af w' q x :=
 ⟨(World.cell?_of_block (a := (ja q 0)) k).trans h.c0, (World.cell?_of_block (a := (ja q 1)) k).trans h.c1, (World.cell?_of_block (a := (ja q 2)) k).trans h.c2, (World.cell?_of_block (a := (ja q 3)) k).trans h.c3, (World.cell?_of_block (a := (ja q 4)) k).trans h.c4, (World.cell?_of_block (a := (ja q 5)) k).trans h.c5, (World.cell?_of_block (a := (ja q 6)) k).trans h.c6, (World.cell?_of_block (a := (ja q 7)) k).trans h.c7, (World.cell?_of_block (a := (ja q 8)) k).trans h.c8, (World.cell?_of_block (a := (ja q 9)) k).trans h.c9⟩
theorem Af.below {w w' : World} {q n : Nat} {x : AF} (h : Af w q x) (k : Below n w w') (hq : q < n) : Af w' q x := h.keep (k.block q hq)
theorem Af.lt {w : World} {q : Nat} {x : AF} (h : Af w q x) : q < w.heap.size := World.block_lt_of_cell? w _ h.c0
theorem Af.new (w : World) (t : TypeId) (x : AF) : Af (w.alloc (Obj.cells (bc x) t)) w.heap.size x := by
 refine ⟨?_, ?_, ?_, ?_, ?_, ?_, ?_, ?_, ?_, ?_⟩ <;> simp [go_sem]
structure Ck (w : World) (x : AF) : Prop where
 t : AI BG w x.aT x.two
 l : ∀ i, i < x.two.length → AI AW w (x.two.getD i AD.nil).ad (x.two.getD i AD.nil).m.lg
 n : AI As w x.aN x.net
 g : AI Bz w x.aG x.ga
 i : AI AW w x.aL x.ln
 s : AI Aw w x.aS x.sd
 bt : x.two.length ≤ 1048576
 bl : ∀ i, i < x.two.length → (x.two.getD i AD.nil).m.lg.length ≤ 1048576
 bn : x.net.length ≤ 1048576
 bg : x.ga.length ≤ 1048576
 bi : x.ln.length ≤ 1048576
 bs : x.sd.length ≤ 1048576
 ct : x.two.length ≤ x.cT
theorem Ck.later {w w' : World} {x : AF} (h : Ck w x) (k : Bw w w') : Ck w' x :=
 ⟨h.t.below k (h.t.lt BC (by omega)), fun i hi => (h.l i hi).below k ((h.l i hi).lt Av (by omega)), h.n.below k (h.n.lt CY (by omega)), h.g.below k (h.g.lt EE (by omega)), h.i.below k (h.i.lt Av (by omega)), h.s.below k (h.s.lt DS (by omega)), h.bt, h.bl, h.bn, h.bg, h.bi, h.bs, h.ct⟩
theorem Ch (x : AF) (s : Int) : AZ x.p s = (x.two.getD s.toNat AD.nil).m := by
 unfold AZ AF.p;simp only [List.getD, List.getElem?_map];cases x.two[s.toNat]? <;> rfl
end Go.Proofs.YtjmnaeeknomiaaaGreatDoor
namespace Go.Proofs.YtjmnaeeknomiaaaGreatDoor
open Go.ChangeShapes Go.WideShapes Go.ChangeAt Go.RowKit
open Go.ChangeMaps (open_string shut_string)
set_option linter.unusedVariables false
set_option maxRecDepth 100000
set_option maxHeartbeats 32000000
set_option linter.unusedSimpArgs false
open Go.Proofs.Tryz
theorem AA.capM {X : Type} {enc : X → List Value} {n : Nat} {T : TypeId} {base : Nat} {w : World} {ad : Option Addr} {cap : Nat} {L : List X} (h : AA enc n T base w (.slice ad L.length cap) L) : L.length ≤ cap := by
 rcases h.2 with ⟨e, h0⟩ | ⟨g, c, cur, e, _, _, hc, _⟩
 ·
  omega
 simp only [Value.slice.injEq] at e;omega
def AD.v (d : AD) : Value := .slice d.ad d.m.lg.length d.cap
structure MV (w : World) (ad : Option Addr) (Bs : List AD) : Prop where
 row : AI BG w ad Bs
 nest : ∀ i, i < Bs.length → AI AW w (Bs.getD i AD.nil).ad (Bs.getD i AD.nil).m.lg
 nil0 : ∀ i, i < Bs.length → (Bs.getD i AD.nil).ad = none → (Bs.getD i AD.nil).cap = 0
theorem MV.below {w w' : World} {ad : Option Addr} {Bs : List AD} {B : Nat} (h : MV w ad Bs) (k : Below B w w') (hB : w.heap.size ≤ B) : MV w' ad Bs :=
 ⟨h.row.below k (fun a e p => Nat.lt_of_lt_of_le (h.row.lt BC (by omega) a e p) hB), fun i hi => (h.nest i hi).below k (fun a e p => Nat.lt_of_lt_of_le ((h.nest i hi).lt Av (by omega) a e p) hB), h.nil0⟩
structure Er (lo hi : Nat) (w : World) (v : Value) (Bs : List AD) : Prop where
 row : AA BG 7 54 lo w v Bs
 nest : ∀ i, i < Bs.length → AA AW 8 27 lo w (Bs.getD i AD.nil).v (Bs.getD i AD.nil).m.lg
 rhi : ∀ g, v.ownBlock = some g → g < hi
 nhi : ∀ i, i < Bs.length → ∀ g, (Bs.getD i AD.nil).v.ownBlock = some g → g < hi
 apart : ∀ i, i < Bs.length → ∀ g h, v.ownBlock = some g → (Bs.getD i AD.nil).v.ownBlock = some h → g ≠ h
 aparts : ∀ i j, i < j → j < Bs.length → ∀ g h, (Bs.getD i AD.nil).v.ownBlock = some g → (Bs.getD j AD.nil).v.ownBlock = some h → g ≠ h
theorem FC {X : Type} {enc : X → List Value} {n : Nat} {T : TypeId} {base : Nat} {w : World} {len cap : Nat} {L : List X} (h : AA enc n T base w (.slice none len cap) L) : cap = 0 := by
 rcases h.2 with ⟨q, _⟩ | ⟨g, c, cur, q, _⟩
 ·
  simp only [Value.slice.injEq] at q;exact q.2.2
 simp at q
theorem Er.view {lo hi : Nat} {w : World} {ad : Option Addr} {len cap : Nat} {Bs : List AD} (h : Er lo hi w (.slice ad len cap) Bs) : len = Bs.length ∧ MV w ad Bs := by
 refine ⟨h.row.view.1, h.row.view.2, fun i hi => (h.nest i hi).view.2, fun i hi e => ?_⟩;have := h.nest i hi;unfold AD.v at this;rw [e] at this;exact FC this
theorem Er.wide {lo hi lo' hi' : Nat} {w : World} {v : Value} {Bs : List AD} (h : Er lo hi w v Bs) (h1 : lo' ≤ lo) (h2 : hi ≤ hi') : Er lo' hi' w v Bs :=
 ⟨h.row.base h1, fun i hi => (h.nest i hi).base h1, fun g e => Nat.lt_of_lt_of_le (h.rhi g e) h2, fun i hi g e => Nat.lt_of_lt_of_le (h.nhi i hi g e) h2, h.apart, h.aparts⟩
attribute [local go_sem] ji ja bc
structure AS (w : World) (q : Nat) (x : AF) : Prop where
 at_ : Af w q x
 fr : ∀ i, w.frozen? (ja q i) = false
theorem AS.keep {w w' : World} {q : Nat} {x : AF} (h : AS w q x) (k : w'.heap[q]? = w.heap[q]?) : AS w' q x :=
 ⟨h.at_.keep k, fun i => (World.frozen?_of_block (a := (ja q i)) k).trans (h.fr i)⟩
theorem AS.below {w w' : World} {q n : Nat} {x : AF} (h : AS w q x) (k : Below n w w') (hq : q < n) : AS w' q x := h.keep (k.block q hq)
theorem AS.lt {w : World} {q : Nat} {x : AF} (h : AS w q x) : q < w.heap.size := h.at_.lt
def AF.zero : AF := ⟨0, 0, ⟨0, 0, 0⟩, [], none, 0, [], none, 0, [], none, 0, [], none, 0, [], none, 0⟩
theorem AP {w : World} {q i j : Nat} {u v : Value} (h : w.cell? (ja q j) = some u) (hij : i ≠ j := by decide) : (w.setCell (ja q i) v).cell? (ja q j) = some u := (AB hij).trans h
theorem EV {w : World} {q i : Nat} {u v : Value} (h : w.cell? (ja q i) = some u) : (w.setCell (ja q i) v).cell? (ja q i) = some v := Al h
theorem AS.put {w : World} {q : Nat} {x0 : AF} (h : AS w q x0) (x : AF) : AS ((((((((((w.setCell (ja q 0) (ji x.id)).setCell (ja q 1) (ji x.po)).setCell (ja q 2) (ji x.rg.ep)).setCell (ja q 3) (ji x.rg.ow)).setCell (ja q 4) (ji x.rg.pa)).setCell (ja q 5) (.slice x.aT x.two.length x.cT)).setCell (ja q 6) (.slice x.aN x.net.length x.cN)).setCell (ja q 7) (.slice x.aG x.ga.length x.cG)).setCell (ja q 8) (.slice x.aL x.ln.length x.cL)).setCell (ja q 9) (.slice x.aS x.sd.length x.cS)) q x := by
 obtain ⟨⟨h0, h1, h2, h3, h4, h5, h6, h7, h8, h9⟩, hf⟩ := h;exact ⟨⟨AP (AP (AP (AP (AP (AP (AP (AP (AP (EV (h0)))))))))), AP (AP (AP (AP (AP (AP (AP (AP (EV (AP (h1)))))))))), AP (AP (AP (AP (AP (AP (AP (EV (AP (AP (h2)))))))))), AP (AP (AP (AP (AP (AP (EV (AP (AP (AP (h3)))))))))), AP (AP (AP (AP (AP (EV (AP (AP (AP (AP (h4)))))))))), AP (AP (AP (AP (EV (AP (AP (AP (AP (AP (h5)))))))))), AP (AP (AP (EV (AP (AP (AP (AP (AP (AP (h6)))))))))), AP (AP (EV (AP (AP (AP (AP (AP (AP (AP (h7)))))))))), AP (EV (AP (AP (AP (AP (AP (AP (AP (AP (h8)))))))))), EV (AP (AP (AP (AP (AP (AP (AP (AP (AP (h9))))))))))⟩, fun i => by simp only [World.frozen?_setCell]; exact hf i⟩
abbrev BT (w : World) (q : Nat) (x : AF) : World := ((((((((((w.setCell (ja q 0) (ji x.id)).setCell (ja q 1) (ji x.po)).setCell (ja q 2) (ji x.rg.ep)).setCell (ja q 3) (ji x.rg.ow)).setCell (ja q 4) (ji x.rg.pa)).setCell (ja q 5) (.slice x.aT x.two.length x.cT)).setCell (ja q 6) (.slice x.aN x.net.length x.cN)).setCell (ja q 7) (.slice x.aG x.ga.length x.cG)).setCell (ja q 8) (.slice x.aL x.ln.length x.cL)).setCell (ja q 9) (.slice x.aS x.sd.length x.cS))
abbrev AJ (x : AF) : Value := .agg (bc x)
end Go.Proofs.YtjmnaeeknomiaaaGreatDoor
