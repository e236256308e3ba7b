import Derived.Test.YtjmnaeeknomiaaaGreatDoorRKWPort5
import Derived.Test.YtjmnaeeknomiaaaGreatDoorRKWPort6
import Derived.Deep.Slices
import Derived.Test.YtjmnaeeknomiaaaGreatDoorRM4
namespace Go.Proofs.YtjmnaeeknomiaaaGreatDoor
open Go.ChangeShapes Go.WideShapes Go.ChangeAt Go.RowKit
open Go.ChangeMaps (open_string shut_string)
set_option linter.unusedVariables false
set_option maxRecDepth 100000
set_option maxHeartbeats 32000000
set_option linter.unusedSimpArgs false
open Go.Proofs.Tryz
def Pt.nil : Pt := ⟨false, false, 0, 0, 0, 0, 0, 0, 0, 0, false⟩
theorem H4 : Ae Pt.nil = true := by decide
def Az (id : Int) (L : List Pt) : Bool := decide (1 ≤ id ∧ id ≤ 9) && (decide (1 ≤ L.length ∧ L.length ≤ 4) && L.all Ae)
theorem DJ {id : Int} {L : List Pt} (h : Az id L = true) : (1 ≤ id ∧ id ≤ 9) ∧ (1 ≤ L.length ∧ L.length ≤ 4) ∧ ∀ i, Ae (L.getD i Pt.nil) = true := by
 simp only [Az, Bool.and_eq_true, decide_eq_true_eq, List.all_eq_true] at h;refine ⟨h.1, h.2.1, fun i => ?_⟩;by_cases hi : i < L.length
 ·
  have : L.getD i Pt.nil = L[i] := by simp [List.getD, hi]
  rw [this];exact h.2.2 _ (List.getElem_mem hi)
 have : L.getD i Pt.nil = Pt.nil := by simp [List.getD, List.getElem?_eq_none (by omega : L.length ≤ i)]
 rw [this];exact H4
def Br (id : Int) (x : Pt) : Bool := x.has && (!(x.b == id) && (decide (x.r < id) && (decide (x.c < 20) && decide (x.h < 8))))
def Gl (x y : Pt) : Bool := DF x.r x.c x.b x.p y.r y.c y.b y.p
def Cp (id : Int) (L : List Pt) : Nat → Option Nat
 | 0 => none
 | n + 1 => match Cp id L n with
  | none => if Br id (L.getD n Pt.nil) then some n else none
  | some k => if Br id (L.getD n Pt.nil) && Gl (L.getD n Pt.nil) (L.getD k Pt.nil) then some n else some k
theorem HI {id : Int} {L : List Pt} {n k : Nat} (h : Cp id L n = some k) : k < n ∧ Br id (L.getD k Pt.nil) = true := by
 induction n generalizing k with
 | zero => cases h
 | succ n ih =>
  simp only [Cp] at h;cases hb : Cp id L n with
  | none =>
   rw [hb] at h;simp only [] at h;cases hc : Br id (L.getD n Pt.nil) with
   | false => rw [hc] at h; cases h
   | true =>
    rw [hc] at h;cases h
    exact ⟨by omega, hc⟩
  | some m =>
   rw [hb] at h;simp only [] at h;split at h
   ·
    rename_i q
    cases h
    simp only [Bool.and_eq_true] at q;exact ⟨by omega, q.1⟩
   cases h
   obtain ⟨a, b⟩ := ih hb;exact ⟨by omega, b⟩
def Cv (id : Int) (L : List Pt) : Option Nat := if Az id L then Cp id L L.length else none
theorem GZ {id : Int} {L : List Pt} {k : Nat} (h : Cv id L = some k) : Az id L = true ∧ k < L.length ∧ Br id (L.getD k Pt.nil) = true := by
 unfold Cv at h;cases hb : Az id L with
 | false => simp [hb] at h
 | true =>
  simp only [hb, if_true] at h;exact ⟨rfl, HI h⟩
def Cc (id : Int) (L : List Pt) (port : Int) : Int × Int × Int × Int :=
 if Az id L && decide (0 ≤ port ∧ port < (L.length : Int)) then (match Cv id L with
  | none => (id, 0, id, port)
  | some k => ((L.getD k Pt.nil).r, (L.getD k Pt.nil).c + 1, id, port)) else (0, 0, 0, 0)
def Fe (id : Int) (L : List Pt) : Int := match Cv id L with
 | none => 0
 | some k => (L.getD k Pt.nil).h + 1
def Do (id : Int) (L : List Pt) (i : Nat) : Int :=
 if Cv id L = some i then 1 else if (L.getD i Pt.nil).has && DF (L.getD i Pt.nil).r (L.getD i Pt.nil).c (L.getD i Pt.nil).b (L.getD i Pt.nil).p (Cc id L i).1 (Cc id L i).2.1 (Cc id L i).2.2.1 (Cc id L i).2.2.2 then 3 else 2
def EO (x : Pt) (role : Int) : Pt := if x.up then Bo x role else x
def BQ (id : Int) (L : List Pt) : List Pt := if Az id L then (List.range L.length).map fun i => EO (L.getD i Pt.nil) (Do id L i) else L
theorem Fm (id : Int) (L : List Pt) : (BQ id L).length = L.length := by unfold BQ; split <;> simp
def Dt (x : Pt) : Int := if (x.ro = 1 ∨ x.ro = 2) ∧ 0 < x.wa then x.wa - 1 else x.wa
def CF (x : Pt) : Pt := ⟨(Aq x).up, (Aq x).has, (Aq x).r, (Aq x).c, (Aq x).b, (Aq x).p, (Aq x).h, (Aq x).l, (Aq x).ro, Dt (Aq x), Ay (Aq x).ro (Dt (Aq x))⟩
theorem GW (x : Pt) : (Aq x).up = x.up ∧ (Aq x).ro = x.ro ∧ (Aq x).wa = x.wa ∧ (Aq x).op = x.op := by
 unfold Aq;split
 ·
  split
  ·
   exact ⟨rfl, rfl, rfl, rfl⟩
  exact ⟨rfl, rfl, rfl, rfl⟩
 exact ⟨rfl, rfl, rfl, rfl⟩
theorem Fq {x : Pt} : Ae x = true ↔ ((0 ≤ x.ro ∧ x.ro ≤ 3) ∧ x.up = E4 x.ro ∧ x.op = Ay x.ro x.wa ∧ (0 ≤ x.wa ∧ x.wa ≤ 4) ∧ Ci x = true) := by
 simp [Ae, GP]
attribute [local go_sem] ji ja
def AK (x : Pt) : List Value := [.bool x.up, .bool x.has, ji x.r, ji x.c, ji x.b, ji x.p, ji x.h, ji x.l, ji x.ro, ji x.wa, .bool x.op]
theorem AV (x : Pt) : (AK x).length = 11 := rfl
theorem Ga (L : List Pt) : ∀ u ∈ AT AK L, u.oneCell' = true := by
 induction L with
 | nil => intro u h; cases h
 | cons x L ih =>
  intro u h;simp only [AT, AK, List.mem_append, List.mem_cons, List.not_mem_nil, or_false] at h;rcases h with (rfl | rfl | rfl | rfl | rfl | rfl | rfl | rfl | rfl | rfl | rfl) | h
  ·
   rfl
  ·
   rfl
  ·
   rfl
  ·
   rfl
  ·
   rfl
  ·
   rfl
  ·
   rfl
  ·
   rfl
  ·
   rfl
  ·
   rfl
  ·
   rfl
  exact ih u h
structure CA (w : World) (b o : Nat) (x : Pt) : Prop where
 c0 : w.cell? (ja b o) = some (.bool x.up)
 c1 : w.cell? ⟨b, o + 1, none⟩ = some (.bool x.has)
 c2 : w.cell? ⟨b, o + 2, none⟩ = some (ji x.r)
 c3 : w.cell? ⟨b, o + 3, none⟩ = some (ji x.c)
 c4 : w.cell? ⟨b, o + 4, none⟩ = some (ji x.b)
 c5 : w.cell? ⟨b, o + 5, none⟩ = some (ji x.p)
 c6 : w.cell? ⟨b, o + 6, none⟩ = some (ji x.h)
 c7 : w.cell? ⟨b, o + 7, none⟩ = some (ji x.l)
 c8 : w.cell? ⟨b, o + 8, none⟩ = some (ji x.ro)
 c9 : w.cell? ⟨b, o + 9, none⟩ = some (ji x.wa)
 c10 : w.cell? ⟨b, o + 10, none⟩ = some (.bool x.op)
theorem CA.all {w : World} {b o : Nat} {x : Pt} (h : CA w b o x) : w.cell? (ja b o) = some (.bool x.up) ∧ w.cell? ⟨b, o + 1, none⟩ = some (.bool x.has) ∧ w.cell? ⟨b, o + 2, none⟩ = some (ji x.r) ∧ w.cell? ⟨b, o + 3, none⟩ = some (ji x.c) ∧ w.cell? ⟨b, o + 4, none⟩ = some (ji x.b) ∧ w.cell? ⟨b, o + 5, none⟩ = some (ji x.p) ∧ w.cell? ⟨b, o + 6, none⟩ = some (ji x.h) ∧ w.cell? ⟨b, o + 7, none⟩ = some (ji x.l) ∧ w.cell? ⟨b, o + 8, none⟩ = some (ji x.ro) ∧ w.cell? ⟨b, o + 9, none⟩ = some (ji x.wa) ∧ w.cell? ⟨b, o + 10, none⟩ = some (.bool x.op) := ⟨h.c0, h.c1, h.c2, h.c3, h.c4, h.c5, h.c6, h.c7, h.c8, h.c9, h.c10⟩
theorem CP {w : World} {b o : Nat} {x : Pt} (h : ∀ j v, (AK x)[j]? = some v → w.cell? ⟨b, o + j, none⟩ = some v) : CA w b o x := ⟨h 0 _ rfl, h 1 _ rfl, h 2 _ rfl, h 3 _ rfl, h 4 _ rfl, h 5 _ rfl, h 6 _ rfl, h 7 _ rfl, h 8 _ rfl, h 9 _ rfl, h 10 _ rfl⟩
theorem Ca (w : World) (g o : Nat) (x : Pt) : Cg w g o (AK x) = (((((((((((w.setCell (ja g o) (.bool x.up)).setCell ⟨g, o + 1, none⟩ (.bool x.has)).setCell ⟨g, o + 2, none⟩ (ji x.r)).setCell ⟨g, o + 3, none⟩ (ji x.c)).setCell ⟨g, o + 4, none⟩ (ji x.b)).setCell ⟨g, o + 5, none⟩ (ji x.p)).setCell ⟨g, o + 6, none⟩ (ji x.h)).setCell ⟨g, o + 7, none⟩ (ji x.l)).setCell ⟨g, o + 8, none⟩ (ji x.ro)).setCell ⟨g, o + 9, none⟩ (ji x.wa)).setCell ⟨g, o + 10, none⟩ (.bool x.op)) := rfl
end Go.Proofs.YtjmnaeeknomiaaaGreatDoor
