/- What Claim, Fade and Turn keep. The bridge in plain lists. Lists of ports: how they come in. Lists of ports: copied, compared. impl.ticked, impl.linked, walked. -/
import Derived.Test.YtdfjfodfnildiaaRows
import Derived.WalkKit
import Derived.ProofKit
import Derived.OpenShut
import Derived.ShutString
import Derived.ChangeOld
import Derived.Below
import Derived.Deep.QuietTactic
import Derived.BigQuiet
import Derived.WalkSmall
import Derived.Laws.OwnMore
import Derived.WalkSpells
import Derived.WalkLawsBesides
import Derived.Test.YtdfjfodfnildiaaQM4
import Derived.Deep.Slices
import Derived.Lib.SmallJoins
import Derived.Test.YtdfjfodfnildiaaQM1
import Derived.Test.YtdfjfodfnildiaaQM2
import Derived.Deep.Cut
namespace Go.Proofs.Ytdfjfodfnildiaa
open Go.ChangeShapes Go.WideShapes Go.ChangeAt Go.RowKit
open Go.ChangeMaps (open_string shut_string)
set_option linter.unusedVariables false
set_option maxRecDepth 100000

end Go.Proofs.Ytdfjfodfnildiaa
namespace Go.Proofs.Ytdfjfodfnildiaa
open Go.ChangeShapes Go.WideShapes Go.ChangeAt Go.RowKit
open Go.ChangeMaps (open_string shut_string)
set_option linter.unusedVariables false
set_option maxRecDepth 100000

def Pt.nil : Pt := ⟨false, false, 0, 0, 0, 0, 0, 0, 0, 0, false⟩
theorem pOk_nil : pOk Pt.nil = true := by decide
def bOk (id : Int) (L : List Pt) : Bool := decide (1 ≤ id ∧ id ≤ 9) && (decide (1 ≤ L.length ∧ L.length ≤ 4) && L.all pOk)
theorem bOk_all {id : Int} {L : List Pt} (h : bOk id L = true) : (1 ≤ id ∧ id ≤ 9) ∧ (1 ≤ L.length ∧ L.length ≤ 4) ∧ ∀ i, pOk (L.getD i Pt.nil) = true := by
  simp only [bOk, Bool.and_eq_true, decide_eq_true_eq, List.all_eq_true] at h
  refine ⟨h.1, h.2.1, fun i => ?_⟩
  by_cases hi : i < L.length
  · have : L.getD i Pt.nil = L[i] := by simp [List.getD, hi]
    rw [this]
    exact h.2.2 _ (List.getElem_mem hi)
  · have : L.getD i Pt.nil = Pt.nil := by simp [List.getD, List.getElem?_eq_none (by omega : L.length ≤ i)]
    rw [this]
    exact pOk_nil
theorem bOk_of {id : Int} {L : List Pt} (h1 : 1 ≤ id ∧ id ≤ 9) (h2 : 1 ≤ L.length ∧ L.length ≤ 4) (h3 : ∀ i, i < L.length → pOk (L.getD i Pt.nil) = true) : bOk id L = true := by
  simp only [bOk, Bool.and_eq_true, decide_eq_true_eq, List.all_eq_true]
  refine ⟨h1, h2, fun x hx => ?_⟩
  obtain ⟨i, hi, rfl⟩ := List.getElem_of_mem hx
  have := h3 i hi
  rwa [show L.getD i Pt.nil = L[i] by simp [List.getD, hi]] at this
def cand (id : Int) (x : Pt) : Bool := x.has && (!(x.b == id) && (decide (x.r < id) && (decide (x.c < 20) && decide (x.h < 8))))
def vBetter (x y : Pt) : Bool := vLt x.r x.c x.b x.p y.r y.c y.b y.p
def bestTo (id : Int) (L : List Pt) : Nat → Option Nat
  | 0 => none
  | n + 1 => match bestTo id L n with
    | none => if cand id (L.getD n Pt.nil) then some n else none
    | some k => if cand id (L.getD n Pt.nil) && vBetter (L.getD n Pt.nil) (L.getD k Pt.nil) then some n else some k
theorem bestTo_some {id : Int} {L : List Pt} {n k : Nat} (h : bestTo id L n = some k) : k < n ∧ cand id (L.getD k Pt.nil) = true := by
  induction n generalizing k with
  | zero => cases h
  | succ n ih =>
    simp only [bestTo] at h
    cases hb : bestTo id L n with
    | none =>
      rw [hb] at h
      simp only [] at h
      cases hc : cand id (L.getD n Pt.nil) with
      | false => rw [hc] at h; cases h
      | true =>
        rw [hc] at h
        cases h
        exact ⟨by omega, hc⟩
    | some m =>
      rw [hb] at h
      simp only [] at h
      split at h
      · rename_i q
        cases h
        simp only [Bool.and_eq_true] at q
        exact ⟨by omega, q.1⟩
      · cases h
        obtain ⟨a, b⟩ := ih hb
        exact ⟨by omega, b⟩
def rootO (id : Int) (L : List Pt) : Option Nat := if bOk id L then bestTo id L L.length else none
theorem rootO_some {id : Int} {L : List Pt} {k : Nat} (h : rootO id L = some k) : bOk id L = true ∧ k < L.length ∧ cand id (L.getD k Pt.nil) = true := by
  unfold rootO at h
  cases hb : bOk id L with
  | false => simp [hb] at h
  | true =>
    simp only [hb, if_true] at h
    exact ⟨rfl, bestTo_some h⟩
def ownR (id : Int) (L : List Pt) (port : Int) : Int × Int × Int × Int :=
  if bOk id L && decide (0 ≤ port ∧ port < (L.length : Int)) then (match rootO id L with
    | none => (id, 0, id, port)
    | some k => ((L.getD k Pt.nil).r, (L.getD k Pt.nil).c + 1, id, port)) else (0, 0, 0, 0)
def hopsR (id : Int) (L : List Pt) : Int := match rootO id L with
  | none => 0
  | some k => (L.getD k Pt.nil).h + 1
def roleR (id : Int) (L : List Pt) (i : Nat) : Int :=
  if rootO id L = some i then 1 else if (L.getD i Pt.nil).has && vLt (L.getD i Pt.nil).r (L.getD i Pt.nil).c (L.getD i Pt.nil).b (L.getD i Pt.nil).p (ownR id L i).1 (ownR id L i).2.1 (ownR id L i).2.2.1 (ownR id L i).2.2.2 then 3 else 2
def turnUp (x : Pt) (role : Int) : Pt := if x.up then turnR x role else x
def decideR (id : Int) (L : List Pt) : List Pt := if bOk id L then (List.range L.length).map fun i => turnUp (L.getD i Pt.nil) (roleR id L i) else L
theorem decideR_len (id : Int) (L : List Pt) : (decideR id L).length = L.length := by unfold decideR; split <;> simp
def tickW (x : Pt) : Int := if (x.ro = 1 ∨ x.ro = 2) ∧ 0 < x.wa then x.wa - 1 else x.wa
def tickP (x : Pt) : Pt := ⟨(fadeR x).up, (fadeR x).has, (fadeR x).r, (fadeR x).c, (fadeR x).b, (fadeR x).p, (fadeR x).h, (fadeR x).l, (fadeR x).ro, tickW (fadeR x), raOp (fadeR x).ro (tickW (fadeR x))⟩
theorem fadeR_keeps (x : Pt) : (fadeR x).up = x.up ∧ (fadeR x).ro = x.ro ∧ (fadeR x).wa = x.wa ∧ (fadeR x).op = x.op := by
  unfold fadeR
  split
  · split
    · exact ⟨rfl, rfl, rfl, rfl⟩
    · exact ⟨rfl, rfl, rfl, rfl⟩
  · exact ⟨rfl, rfl, rfl, rfl⟩
theorem pOk_parts {x : Pt} : pOk x = true ↔ ((0 ≤ x.ro ∧ x.ro ≤ 3) ∧ x.up = raUp x.ro ∧ x.op = raOp x.ro x.wa ∧ (0 ≤ x.wa ∧ x.wa ≤ 4) ∧ fitsB x = true) := by
  simp [pOk, raIs]
end Go.Proofs.Ytdfjfodfnildiaa
namespace Go.Proofs.Ytdfjfodfnildiaa
open Go.ChangeShapes Go.WideShapes Go.ChangeAt Go.RowKit
open Go.ChangeMaps (open_string shut_string)
set_option linter.unusedVariables false
set_option maxRecDepth 100000

def ptEnc (x : Pt) : List Value := [.bool x.up, .bool x.has, .int .i64 x.r, .int .i64 x.c, .int .i64 x.b, .int .i64 x.p, .int .i64 x.h, .int .i64 x.l, .int .i64 x.ro, .int .i64 x.wa, .bool x.op]
theorem ptEnc_len (x : Pt) : (ptEnc x).length = 11 := rfl
theorem ptEnc_ones (L : List Pt) : ∀ u ∈ fcells ptEnc L, u.oneCell' = true := by
  induction L with
  | nil => intro u h; cases h
  | cons x L ih =>
    intro u h
    simp only [fcells, ptEnc, List.mem_append, List.mem_cons, List.not_mem_nil, or_false] at h
    rcases h with (rfl | rfl | rfl | rfl | rfl | rfl | rfl | rfl | rfl | rfl | rfl) | h
    · rfl
    · rfl
    · rfl
    · rfl
    · rfl
    · rfl
    · rfl
    · rfl
    · rfl
    · rfl
    · rfl
    · exact ih u h
structure PtAtO (w : World) (b o : Nat) (x : Pt) : Prop where
  c0 : w.cell? ⟨b, o, none⟩ = some (.bool x.up)
  c1 : w.cell? ⟨b, o + 1, none⟩ = some (.bool x.has)
  c2 : w.cell? ⟨b, o + 2, none⟩ = some (.int .i64 x.r)
  c3 : w.cell? ⟨b, o + 3, none⟩ = some (.int .i64 x.c)
  c4 : w.cell? ⟨b, o + 4, none⟩ = some (.int .i64 x.b)
  c5 : w.cell? ⟨b, o + 5, none⟩ = some (.int .i64 x.p)
  c6 : w.cell? ⟨b, o + 6, none⟩ = some (.int .i64 x.h)
  c7 : w.cell? ⟨b, o + 7, none⟩ = some (.int .i64 x.l)
  c8 : w.cell? ⟨b, o + 8, none⟩ = some (.int .i64 x.ro)
  c9 : w.cell? ⟨b, o + 9, none⟩ = some (.int .i64 x.wa)
  c10 : w.cell? ⟨b, o + 10, none⟩ = some (.bool x.op)
theorem ptAtO_of {w : World} {b o : Nat} {x : Pt} (h : ∀ j v, (ptEnc x)[j]? = some v → w.cell? ⟨b, o + j, none⟩ = some v) : PtAtO w b o x := ⟨h 0 _ rfl, h 1 _ rfl, h 2 _ rfl, h 3 _ rfl, h 4 _ rfl, h 5 _ rfl, h 6 _ rfl, h 7 _ rfl, h 8 _ rfl, h 9 _ rfl, h 10 _ rfl⟩
theorem ptPut (w : World) (g o : Nat) (x : Pt) : putAll w g o (ptEnc x) = (((((((((((w.setCell ⟨g, o, none⟩ (.bool x.up)).setCell ⟨g, o + 1, none⟩ (.bool x.has)).setCell ⟨g, o + 2, none⟩ (.int .i64 x.r)).setCell ⟨g, o + 3, none⟩ (.int .i64 x.c)).setCell ⟨g, o + 4, none⟩ (.int .i64 x.b)).setCell ⟨g, o + 5, none⟩ (.int .i64 x.p)).setCell ⟨g, o + 6, none⟩ (.int .i64 x.h)).setCell ⟨g, o + 7, none⟩ (.int .i64 x.l)).setCell ⟨g, o + 8, none⟩ (.int .i64 x.ro)).setCell ⟨g, o + 9, none⟩ (.int .i64 x.wa)).setCell ⟨g, o + 10, none⟩ (.bool x.op)) := rfl
end Go.Proofs.Ytdfjfodfnildiaa
namespace Go.Proofs.Ytdfjfodfnildiaa
open Go.ChangeShapes Go.WideShapes Go.ChangeAt Go.RowKit
open Go.ChangeMaps (open_string shut_string)
set_option linter.unusedVariables false
set_option maxRecDepth 100000

theorem ptInfo : (Try.prog.info? 68).map (fun i => (i.zero, i.size, i.bytes)) = some (some (.agg #[.bool false, .bool false, .int .i64 0, .int .i64 0, .int .i64 0, .int .i64 0, .int .i64 0, .int .i64 0, .int .i64 0, .int .i64 0, .bool false]), 11, 80) := by kernel_rfl
end Go.Proofs.Ytdfjfodfnildiaa
namespace Go.Proofs.Ytdfjfodfnildiaa
open Go.ChangeShapes Go.WideShapes Go.ChangeAt Go.RowKit
open Go.ChangeMaps (open_string shut_string)
set_option linter.unusedVariables false
set_option maxRecDepth 100000

def linkP (up : Bool) : Pt := if up then ⟨true, false, 0, 0, 0, 0, 0, 0, 3, 0, false⟩ else Pt.nil
theorem tick_imp {x : Pt} (h : pOk x = true) : tickP x = if ((fadeR x).ro = 1 ∨ (fadeR x).ro = 2) ∧ 0 < (fadeR x).wa then { fadeR x with wa := (fadeR x).wa - 1, op := ((fadeR x).wa - 1 == 0) } else fadeR x := by
  obtain ⟨h1, h2, h3, h4, _⟩ := pOk_parts.1 h
  obtain ⟨k1, k2, k3, k4⟩ := fadeR_keeps x
  unfold tickP tickW
  generalize fadeR x = y at *
  obtain ⟨up, has, r, c, b, p, hh, l, ro, wa, op⟩ := y
  dsimp only at *
  by_cases hc : (ro = 1 ∨ ro = 2) ∧ 0 < wa
  · rw [if_pos hc, if_pos hc]
    congr 1
    unfold raOp
    rw [Bool.eq_iff_iff]
    simp only [decide_eq_true_eq, beq_iff_eq]
    omega
  · rw [if_neg hc, if_neg hc]
    congr 1
    rw [k4, h3, k2, k3]
end Go.Proofs.Ytdfjfodfnildiaa
