import Derived.Test.YtjmnaeeknomiaaaGreatDoorRKWRe5
namespace Go.Proofs.YtjmnaeeknomiaaaGreatDoor
open Go.ChangeShapes Go.WideShapes Go.ChangeAt Go.RowKit
open Go.ChangeMaps (open_string shut_string)
set_option linter.unusedVariables false
set_option maxRecDepth 100000
set_option maxHeartbeats 32000000
set_option linter.unusedSimpArgs false
open Go.Proofs.Tryz
theorem KD {id : Int} {L : List Pt} (h : Az id L = true) : L.length ≤ 4 := (DJ h).2.1.2
theorem I8 (id : Int) (L : List Pt) (x : Ik) : (Cn id L x).length ≤ 8 := by
 unfold Cn;split
 ·
  rename_i h
  unfold Da at h;simp only [Bool.and_eq_true] at h;have h4 := KD h.1;have h1 := Gh L (Ds id L x) L.length;have h2 := Hk id (Ds id L x) L.length;rw [List.length_append];split
  ·
   omega
  simp; omega
 simp
attribute [local go_sem] ji ja
theorem AI.take {X : Type} {enc : X → List Value} {w : World} {ad : Option Addr} {L : List X} (h : AI enc w ad L) (k : Nat) : AI enc w ad (L.take k) := by
 intro hp;obtain ⟨b, off, e, hc⟩ := h (by rw [List.length_take] at hp; omega);refine ⟨b, off, e, fun j v hv => hc j v ?_⟩;rw [← List.take_append_drop k L, Fo, List.getElem?_append_left (List.getElem?_eq_some_iff.1 hv).1];exact hv
def EW (id n : Int) (X : List Ik) : List Pt := Db (Bp id n) (Ao id n) X
theorem HK (id n : Int) : (Ao id n).length ≤ 4 := by
 unfold Ao;split
 ·
  rename_i q
  unfold Au at q;simp only [Bool.and_eq_true, decide_eq_true_eq] at q;rw [List.length_replicate];omega
 simp
theorem KS (id n : Int) (X : List Ik) : (EW id n X).length ≤ 4 := by
 unfold EW; rw [H5]; exact HK id n
theorem KR {id n : Int} (X : List Ik) (h : Au id n = false) : EW id n X = [] ∧ Bp id n = 0 := by
 have e1 : Bp id n = 0 := by unfold Bp; rw [h]; rfl
 have e2 : Ao id n = [] := by unfold Ao; rw [h]; rfl
 refine ⟨?_, e1⟩;unfold EW;rw [e1, e2];exact KT X (by decide)
def ET (id n : Int) (X : List Ik) (i : Int) : List Ou := EI (Bp id n) (Ao id n) X Ik.nil i
theorem Ji (id n : Int) (X : List Ik) (i : Int) : (ET id n X i).length ≤ 8 := by
 unfold ET EI;split
 ·
  exact I8 _ _ _
 simp
theorem AR.put1 {w : World} {q : Nat} {id : Int} {v : Value} (h : AR w q id v) (id' : Int) (v' : Value) (k : Nat) (hk : k ≠ q) : ((w.setCell (ja q 0) (ji id')).setCell (ja q 1) v').heap[k]? = w.heap[k]? := by
 rw [AE hk, AE hk]
end Go.Proofs.YtjmnaeeknomiaaaGreatDoor
