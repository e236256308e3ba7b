/- The bridge in plain lists. -/
import Derived.Test.YtjholgpjicliaaaDoorRows
import Derived.WalkKit
import Derived.ProofKit
import Derived.OpenShut
import Derived.ShutString
import Derived.ChangeOld
import Derived.Below
import Derived.Deep.QuietTactic
import Derived.BigQuiet
import Derived.WalkSmall
import Derived.Laws.OwnMore
import Derived.WalkSpells
import Derived.WalkLawsBesides
import Derived.Test.YtjholgpjicliaaaDoorPortMath
namespace Go.Proofs.YtjholgpjicliaaaDoor
open Go.ChangeShapes Go.WideShapes Go.ChangeAt Go.RowKit
open Go.ChangeMaps (open_string shut_string)
set_option linter.unusedVariables false
set_option maxRecDepth 100000

/-- A port that is not there. -/
def Pt.nil : Pt := ⟨false, false, 0, 0, 0, 0, 0, 0, 0, 0, false⟩
theorem pOk_nil : pOk Pt.nil = true := by decide
/-- A bridge is right. -/
def bOk (id : Int) (L : List Pt) : Bool := decide (1 ≤ id ∧ id ≤ 9) && (decide (1 ≤ L.length ∧ L.length ≤ 4) && L.all pOk)
theorem bOk_all {id : Int} {L : List Pt} (h : bOk id L = true) : (1 ≤ id ∧ id ≤ 9) ∧ (1 ≤ L.length ∧ L.length ≤ 4) ∧ ∀ i, pOk (L.getD i Pt.nil) = true := by
  simp only [bOk, Bool.and_eq_true, decide_eq_true_eq, List.all_eq_true] at h
  refine ⟨h.1, h.2.1, fun i => ?_⟩
  by_cases hi : i < L.length
  · have : L.getD i Pt.nil = L[i] := by simp [List.getD, hi]
    rw [this]
    exact h.2.2 _ (List.getElem_mem hi)
  · have : L.getD i Pt.nil = Pt.nil := by simp [List.getD, List.getElem?_eq_none (by omega : L.length ≤ i)]
    rw [this]
    exact pOk_nil
theorem bOk_of {id : Int} {L : List Pt} (h1 : 1 ≤ id ∧ id ≤ 9) (h2 : 1 ≤ L.length ∧ L.length ≤ 4) (h3 : ∀ i, i < L.length → pOk (L.getD i Pt.nil) = true) : bOk id L = true := by
  simp only [bOk, Bool.and_eq_true, decide_eq_true_eq, List.all_eq_true]
  refine ⟨h1, h2, fun x hx => ?_⟩
  obtain ⟨i, hi, rfl⟩ := List.getElem_of_mem hx
  have := h3 i hi
  rwa [show L.getD i Pt.nil = L[i] by simp [List.getD, hi]] at this
/-- A port whose claim may lead to the least. -/
def cand (id : Int) (x : Pt) : Bool := x.has && (!(x.b == id) && (decide (x.r < id) && (decide (x.c < 20) && decide (x.h < 8))))
def vBetter (x y : Pt) : Bool := vLt x.r x.c x.b x.p y.r y.c y.b y.p
/-- The best of the first n. -/
def bestTo (id : Int) (L : List Pt) : Nat → Option Nat
  | 0 => none
  | n + 1 => match bestTo id L n with
    | none => if cand id (L.getD n Pt.nil) then some n else none
    | some k => if cand id (L.getD n Pt.nil) && vBetter (L.getD n Pt.nil) (L.getD k Pt.nil) then some n else some k
theorem bestTo_some {id : Int} {L : List Pt} {n k : Nat} (h : bestTo id L n = some k) : k < n ∧ cand id (L.getD k Pt.nil) = true := by
  induction n generalizing k with
  | zero => cases h
  | succ n ih =>
    simp only [bestTo] at h
    cases hb : bestTo id L n with
    | none =>
      rw [hb] at h
      simp only [] at h
      cases hc : cand id (L.getD n Pt.nil) with
      | false => rw [hc] at h; cases h
      | true =>
        rw [hc] at h
        cases h
        exact ⟨by omega, hc⟩
    | some m =>
      rw [hb] at h
      simp only [] at h
      split at h
      · rename_i q
        cases h
        simp only [Bool.and_eq_true] at q
        exact ⟨by omega, q.1⟩
      · cases h
        obtain ⟨a, b⟩ := ih hb
        exact ⟨by omega, b⟩
/-- What a claim is told by is alike. -/
def likeV (x y : Pt) : Prop := x.has = y.has ∧ x.r = y.r ∧ x.c = y.c ∧ x.b = y.b ∧ x.p = y.p ∧ x.h = y.h
theorem cand_like {id : Int} {x y : Pt} (h : likeV x y) : cand id x = cand id y := by
  obtain ⟨h1, h2, h3, h4, h5, h6⟩ := h
  simp [cand, h1, h2, h3, h4, h6]
theorem best_like {id : Int} {L M : List Pt} (h : ∀ i, likeV (L.getD i Pt.nil) (M.getD i Pt.nil)) (n : Nat) : bestTo id L n = bestTo id M n := by
  induction n with
  | zero => rfl
  | succ n ih =>
    simp only [bestTo, ih]
    rw [cand_like (h n)]
    cases bestTo id M n with
    | none => rfl
    | some k =>
      simp only []
      have e : vBetter (L.getD n Pt.nil) (L.getD k Pt.nil) = vBetter (M.getD n Pt.nil) (M.getD k Pt.nil) := by
        obtain ⟨_, a2, a3, a4, a5, _⟩ := h n
        obtain ⟨_, b2, b3, b4, b5, _⟩ := h k
        unfold vBetter
        rw [a2, a3, a4, a5, b2, b3, b4, b5]
      rw [e]
/-- The port that leads to the least. -/
def rootO (id : Int) (L : List Pt) : Option Nat := if bOk id L then bestTo id L L.length else none
def rootI (id : Int) (L : List Pt) : Int := match rootO id L with
  | none => -1
  | some k => (k : Int)
theorem rootO_some {id : Int} {L : List Pt} {k : Nat} (h : rootO id L = some k) : bOk id L = true ∧ k < L.length ∧ cand id (L.getD k Pt.nil) = true := by
  unfold rootO at h
  cases hb : bOk id L with
  | false => simp [hb] at h
  | true =>
    simp only [hb, if_true] at h
    exact ⟨rfl, bestTo_some h⟩
/-- What a bridge claims at a port. -/
def ownR (id : Int) (L : List Pt) (port : Int) : Int × Int × Int × Int :=
  if bOk id L && decide (0 ≤ port ∧ port < (L.length : Int)) then (match rootO id L with
    | none => (id, 0, id, port)
    | some k => ((L.getD k Pt.nil).r, (L.getD k Pt.nil).c + 1, id, port)) else (0, 0, 0, 0)
def hopsR (id : Int) (L : List Pt) : Int := match rootO id L with
  | none => 0
  | some k => (L.getD k Pt.nil).h + 1
/-- What a port is for. -/
def roleR (id : Int) (L : List Pt) (i : Nat) : Int :=
  if rootO id L = some i then 1 else if (L.getD i Pt.nil).has && vLt (L.getD i Pt.nil).r (L.getD i Pt.nil).c (L.getD i Pt.nil).b (L.getD i Pt.nil).p (ownR id L i).1 (ownR id L i).2.1 (ownR id L i).2.2.1 (ownR id L i).2.2.2 then 3 else 2
theorem roleR_in (id : Int) (L : List Pt) (i : Nat) : 1 ≤ roleR id L i ∧ roleR id L i ≤ 3 := by
  unfold roleR
  split
  · omega
  · split <;> omega
/-- A port, turned to its role, where it is there. -/
def turnUp (x : Pt) (role : Int) : Pt := if x.up then turnR x role else x
def decideR (id : Int) (L : List Pt) : List Pt := if bOk id L then (List.range L.length).map fun i => turnUp (L.getD i Pt.nil) (roleR id L i) else L
theorem decideR_len (id : Int) (L : List Pt) : (decideR id L).length = L.length := by unfold decideR; split <;> simp
theorem decideR_at {id : Int} {L : List Pt} (h : bOk id L = true) {i : Nat} (hi : i < L.length) : (decideR id L).getD i Pt.nil = turnUp (L.getD i Pt.nil) (roleR id L i) := by
  unfold decideR
  rw [if_pos h]
  simp [List.getD, hi]
theorem turnR_like (x : Pt) (role : Int) : likeV (turnR x role) x ∧ (turnR x role).up = x.up ∧ (turnR x role).l = x.l := by
  unfold turnR
  split
  · exact ⟨⟨rfl, rfl, rfl, rfl, rfl, rfl⟩, rfl, rfl⟩
  · exact ⟨⟨rfl, rfl, rfl, rfl, rfl, rfl⟩, rfl, rfl⟩
theorem turnUp_like (x : Pt) (role : Int) : likeV (turnUp x role) x ∧ (turnUp x role).up = x.up ∧ (turnUp x role).l = x.l := by
  unfold turnUp
  split
  · exact turnR_like x role
  · exact ⟨⟨rfl, rfl, rfl, rfl, rfl, rfl⟩, rfl, rfl⟩
theorem turnUp_ok {x : Pt} {role : Int} (h : pOk x = true) : pOk (turnUp x role) = true := by
  unfold turnUp
  split
  · exact turn_ok h
  · exact h
theorem getD_none {L : List Pt} {i : Nat} (h : L.length ≤ i) : L.getD i Pt.nil = Pt.nil := by simp [List.getD, List.getElem?_eq_none h]
theorem decideR_like {id : Int} {L : List Pt} (h : bOk id L = true) (i : Nat) : likeV ((decideR id L).getD i Pt.nil) (L.getD i Pt.nil) ∧ ((decideR id L).getD i Pt.nil).up = (L.getD i Pt.nil).up ∧ ((decideR id L).getD i Pt.nil).l = (L.getD i Pt.nil).l := by
  by_cases hi : i < L.length
  · rw [decideR_at h hi]
    exact turnUp_like _ _
  · rw [getD_none (L := decideR id L) (by rw [decideR_len]; omega), getD_none (L := L) (by omega)]
    exact ⟨⟨rfl, rfl, rfl, rfl, rfl, rfl⟩, rfl, rfl⟩
theorem decideR_ok {id : Int} {L : List Pt} (h : bOk id L = true) : bOk id (decideR id L) = true := by
  obtain ⟨h1, h2, h3⟩ := bOk_all h
  refine bOk_of h1 (by rw [decideR_len]; exact h2) fun i hi => ?_
  rw [decideR_len] at hi
  rw [decideR_at h hi]
  exact turnUp_ok (h3 i)
theorem rootO_like {id : Int} {L M : List Pt} (hL : bOk id L = true) (hM : bOk id M = true) (hl : L.length = M.length) (h : ∀ i, likeV (L.getD i Pt.nil) (M.getD i Pt.nil)) : rootO id L = rootO id M := by
  unfold rootO
  rw [if_pos hL, if_pos hM, hl]
  exact best_like h _
theorem ownR_like {id : Int} {L M : List Pt} (hL : bOk id L = true) (hM : bOk id M = true) (hl : L.length = M.length) (h : ∀ i, likeV (L.getD i Pt.nil) (M.getD i Pt.nil)) (p : Int) : ownR id L p = ownR id M p := by
  unfold ownR
  rw [rootO_like hL hM hl h, hL, hM, hl]
  cases rootO id M with
  | none => rfl
  | some k =>
    obtain ⟨_, a2, a3, _⟩ := h k
    simp only [a2, a3]
theorem roleR_like {id : Int} {L M : List Pt} (hL : bOk id L = true) (hM : bOk id M = true) (hl : L.length = M.length) (h : ∀ i, likeV (L.getD i Pt.nil) (M.getD i Pt.nil)) (i : Nat) : roleR id L i = roleR id M i := by
  unfold roleR
  rw [rootO_like hL hM hl h, ownR_like hL hM hl h]
  obtain ⟨a1, a2, a3, a4, a5, _⟩ := h i
  rw [a1, a2, a3, a4, a5]
theorem turnR_idem {x : Pt} {role : Int} (h : pOk x = true) : turnR (turnR x role) role = turnR x role := by
  have h2 : pOk (turnR x role) = true := turn_ok h
  cases hu : x.up
  · have e : turnR x role = x := by unfold turnR; rw [hu]; simp
    rw [e, e]
  cases hr : raUp role
  · have e : turnR x role = x := by unfold turnR; rw [hr]; simp
    rw [e, e]
  have e : turnR x role = ⟨x.up, x.has, x.r, x.c, x.b, x.p, x.h, x.l, role, waitR x.ro x.wa role, raOp role (waitR x.ro x.wa role)⟩ := by unfold turnR; rw [h, hu, hr]; simp
  have ew : waitR role (waitR x.ro x.wa role) role = waitR x.ro x.wa role := by
    by_cases q : role = 3
    · simp [waitR, q]
    · simp [waitR, q]
  rw [e] at h2 ⊢
  unfold turnR
  rw [h2]
  simp only [hu, hr, Bool.and_self, if_true, ew]
theorem turnUp_idem {x : Pt} {role : Int} (h : pOk x = true) : turnUp (turnUp x role) role = turnUp x role := by
  cases hu : x.up
  · have e : turnUp x role = x := by simp [turnUp, hu]
    rw [e, e]
  · have e : turnUp x role = turnR x role := by simp [turnUp, hu]
    have e2 : (turnR x role).up = true := (turnR_like x role).2.1.trans hu
    rw [e]
    unfold turnUp
    rw [if_pos e2]
    exact turnR_idem h
theorem decideR_idem (id : Int) (L : List Pt) : decideR id (decideR id L) = decideR id L := by
  cases h : bOk id L with
  | false =>
    have e : decideR id L = L := by unfold decideR; rw [h]; simp
    rw [e, e]
  | true =>
    have h2 := decideR_ok h
    have hl := decideR_len id L
    apply List.ext_getElem (by rw [decideR_len])
    intro i hi1 hi2
    have hi : i < L.length := by rw [hl] at hi2; exact hi2
    have a1 := decideR_at h2 hi2
    have a2 := decideR_at h hi
    rw [show (decideR id (decideR id L)).getD i Pt.nil = (decideR id (decideR id L))[i] by simp [List.getD, hi1]] at a1
    rw [show (decideR id L).getD i Pt.nil = (decideR id L)[i] by simp [List.getD, hi2]] at a1 a2
    rw [a1, a2, roleR_like h2 h hl (fun j => (decideR_like h j).1) i]
    exact turnUp_idem ((bOk_all h).2.2 i)
/-- A port, a tick later. -/
def tickW (x : Pt) : Int := if (x.ro = 1 ∨ x.ro = 2) ∧ 0 < x.wa then x.wa - 1 else x.wa
def tickP (x : Pt) : Pt := ⟨(fadeR x).up, (fadeR x).has, (fadeR x).r, (fadeR x).c, (fadeR x).b, (fadeR x).p, (fadeR x).h, (fadeR x).l, (fadeR x).ro, tickW (fadeR x), raOp (fadeR x).ro (tickW (fadeR x))⟩
theorem fadeR_keeps (x : Pt) : (fadeR x).up = x.up ∧ (fadeR x).ro = x.ro ∧ (fadeR x).wa = x.wa ∧ (fadeR x).op = x.op := by
  unfold fadeR
  split
  · split
    · exact ⟨rfl, rfl, rfl, rfl⟩
    · exact ⟨rfl, rfl, rfl, rfl⟩
  · exact ⟨rfl, rfl, rfl, rfl⟩
theorem pOk_parts {x : Pt} : pOk x = true ↔ ((0 ≤ x.ro ∧ x.ro ≤ 3) ∧ x.up = raUp x.ro ∧ x.op = raOp x.ro x.wa ∧ (0 ≤ x.wa ∧ x.wa ≤ 4) ∧ fitsB x = true) := by
  simp [pOk, raIs]
theorem fits_fade {x : Pt} (h : pOk x = true) : fitsB (fadeR x) = true := by
  have hf : fitsB x = true := (pOk_parts.1 h).2.2.2.2
  unfold fadeR
  rw [h]
  cases hh : x.has
  · simpa using hf
  · have hp := pOk_has h hh
    simp only [Bool.and_self, if_true]
    split
    · simp [fitsB, Pt.bare]
    · simp only [fitsB, if_true, hp.1, hp.2.1, Bool.true_and, Bool.and_eq_true, decide_eq_true_eq]
      omega
theorem tick_ok {x : Pt} (h : pOk x = true) : pOk (tickP x) = true := by
  obtain ⟨h1, h2, h3, h4, _⟩ := pOk_parts.1 h
  obtain ⟨k1, k2, k3, _⟩ := fadeR_keeps x
  refine pOk_parts.2 ⟨?_, ?_, rfl, ?_, ?_⟩
  · show 0 ≤ (fadeR x).ro ∧ (fadeR x).ro ≤ 3
    rw [k2]; exact h1
  · show (fadeR x).up = raUp (fadeR x).ro
    rw [k1, k2]; exact h2
  · show 0 ≤ tickW (fadeR x) ∧ tickW (fadeR x) ≤ 4
    unfold tickW
    rw [k3]
    split <;> omega
  · exact fits_fade h
theorem tick_left {x : Pt} (h : pOk x = true) {m : Int} (hm : x.has = true → x.l ≤ m + 1) : (tickP x).has = true → (tickP x).l ≤ m := by
  show (fadeR x).has = true → (fadeR x).l ≤ m
  unfold fadeR
  rw [h]
  cases hh : x.has
  · simp [hh]
  · have := hm hh
    simp only [Bool.and_self, if_true]
    split
    · intro q; cases q
    · intro _
      show x.l - 1 ≤ m
      omega
/-- A port that was shut for a ring, and still waits m ticks. -/
def shutFor (m : Int) (x : Pt) : Prop := x.ro = 3 ∨ m ≤ x.wa
theorem shut_not {m : Int} {x : Pt} (h : pOk x = true) (hm : 1 ≤ m) (hs : shutFor m x) : x.op = false := by
  obtain ⟨_, _, h3, _, _⟩ := pOk_parts.1 h
  rw [h3]
  unfold raOp
  simp only [decide_eq_false_iff_not]
  rcases hs with q | q <;> omega
theorem shut_tick {m : Int} {x : Pt} (role : Int) (h : pOk x = true) (h0 : 1 ≤ m) (hm : m ≤ 4) (hs : shutFor (m + 1) x) : shutFor m (turnUp (tickP x) role) := by
  obtain ⟨h1, h2, h3, h4, _⟩ := pOk_parts.1 h
  obtain ⟨k1, k2, k3, _⟩ := fadeR_keeps x
  have t1 : (tickP x).up = x.up := k1
  have t2 : (tickP x).ro = x.ro := k2
  have t3 : (tickP x).wa = if (x.ro = 1 ∨ x.ro = 2) ∧ 0 < x.wa then x.wa - 1 else x.wa := by
    show tickW (fadeR x) = _
    unfold tickW
    rw [k2, k3]
  have hw : x.ro = 3 ∨ m ≤ (tickP x).wa := by
    rcases hs with q | q
    · exact .inl q
    · right
      rw [t3]
      split <;> omega
  unfold turnUp
  split
  · unfold turnR
    split
    · show role = 3 ∨ m ≤ waitR (tickP x).ro (tickP x).wa role
      by_cases q : role = 3
      · exact .inl q
      · right
        unfold waitR
        rw [if_neg q, t2]
        split
        · omega
        · rcases hw with e | e
          · omega
          · exact e
    · rcases hw with e | e
      · exact .inl (t2.trans e)
      · exact .inr e
  · rcases hw with e | e
    · exact .inl (t2.trans e)
    · exact .inr e
/-- A bridge, a tick later. -/
def tickR (id : Int) (L : List Pt) : List Pt := decideR id (L.map tickP)
theorem map_getD {f : Pt → Pt} {L : List Pt} {i : Nat} (hi : i < L.length) : (L.map f).getD i Pt.nil = f (L.getD i Pt.nil) := by simp [List.getD, hi]
theorem tickM_ok {id : Int} {L : List Pt} (h : bOk id L = true) : bOk id (L.map tickP) = true := by
  obtain ⟨h1, h2, h3⟩ := bOk_all h
  refine bOk_of h1 (by simpa using h2) fun i hi => ?_
  rw [map_getD (by simpa using hi)]
  exact tick_ok (h3 i)
theorem tickR_ok {id : Int} {L : List Pt} (h : bOk id L = true) : bOk id (tickR id L) = true := decideR_ok (tickM_ok h)
theorem tickR_len (id : Int) (L : List Pt) : (tickR id L).length = L.length := by unfold tickR; rw [decideR_len]; simp
theorem tickR_left {id : Int} {L : List Pt} (h : bOk id L = true) {m : Int} (hm : ∀ i, i < L.length → (L.getD i Pt.nil).has = true → (L.getD i Pt.nil).l ≤ m + 1) : ∀ i, i < L.length → ((tickR id L).getD i Pt.nil).has = true → ((tickR id L).getD i Pt.nil).l ≤ m := by
  intro i hi q
  obtain ⟨⟨a1, _⟩, _, a2⟩ := decideR_like (tickM_ok h) i
  have e := map_getD (f := tickP) hi
  unfold tickR at q ⊢
  rw [a1, e] at q
  rw [a2, e]
  exact tick_left ((bOk_all h).2.2 i) (hm i hi) q
theorem tickR_shut {id : Int} {L : List Pt} (h : bOk id L = true) {m : Int} (h0 : 1 ≤ m) (hm : m ≤ 4) {i : Nat} (hi : i < L.length) (hs : shutFor (m + 1) (L.getD i Pt.nil)) : shutFor m ((tickR id L).getD i Pt.nil) := by
  unfold tickR
  rw [decideR_at (tickM_ok h) (by simpa using hi), map_getD hi]
  exact shut_tick _ ((bOk_all h).2.2 i) h0 hm hs
theorem gone3 {id : Int} {L : List Pt} (h : bOk id L = true) : ∀ i, i < L.length → ((tickR id (tickR id (tickR id L))).getD i Pt.nil).has = false := by
  have h1 := tickR_ok h
  have h2 := tickR_ok h1
  have h3 := tickR_ok h2
  have a0 : ∀ i, i < L.length → (L.getD i Pt.nil).has = true → (L.getD i Pt.nil).l ≤ 2 + 1 := fun i _ q => (pOk_has ((bOk_all h).2.2 i) q).2.2.2.2.2
  have a1 := tickR_left h a0
  have a2 := tickR_left h1 (m := 1) (by rw [tickR_len]; exact a1)
  rw [tickR_len] at a2
  have a3 := tickR_left h2 (m := 0) (by rw [tickR_len, tickR_len]; exact a2)
  rw [tickR_len, tickR_len] at a3
  intro i hi
  cases q : ((tickR id (tickR id (tickR id L))).getD i Pt.nil).has
  · rfl
  · have b1 := a3 i hi q
    have b2 := (pOk_has ((bOk_all h3).2.2 i) q).2.2.2.2.1
    omega

end Go.Proofs.YtjholgpjicliaaaDoor
