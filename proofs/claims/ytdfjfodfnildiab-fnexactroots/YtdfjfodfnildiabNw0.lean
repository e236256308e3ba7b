/- What a new net is, in plain lists. -/
import Derived.Test.YtdfjfodfnildiabRows
import Derived.WalkKit
import Derived.ProofKit
import Derived.OpenShut
import Derived.ShutString
import Derived.ChangeOld
import Derived.Below
import Derived.Deep.QuietTactic
import Derived.BigQuiet
import Derived.WalkSmall
import Derived.Laws.OwnMore
import Derived.WalkSpells
import Derived.WalkLawsBesides
import Derived.Deep.Cut
import Derived.Test.YtdfjfodfnildiabNm0
import Derived.Test.YtdfjfodfnildiabRe3
import Derived.Test.YtdfjfodfnildiabBr9
namespace Go.Proofs.Ytdfjfodfnildiab
open Go.ChangeShapes Go.WideShapes Go.ChangeAt Go.RowKit
open Go.ChangeMaps (open_string shut_string)
set_option linter.unusedVariables false
set_option maxRecDepth 100000

/-- A port that came up. -/
def upPt : Pt := ⟨true, false, 0, 0, 0, 0, 0, 0, 2, 4, false⟩
def linkIk (q : Int) : Ik := ⟨3, q, 0, 0, 0, 0, 0, true⟩
/-- Four ports, of which those of S are up. -/
def mkS (S : Nat → Bool) : List Pt := [if S 0 then upPt else Pt.nil, if S 1 then upPt else Pt.nil, if S 2 then upPt else Pt.nil, if S 3 then upPt else Pt.nil]
def mkB (b0 b1 b2 b3 : Bool) : List Pt := [if b0 then upPt else Pt.nil, if b1 then upPt else Pt.nil, if b2 then upPt else Pt.nil, if b3 then upPt else Pt.nil]
def lsEq : List Pt → List Pt → Bool
  | [], [] => true
  | x :: L, y :: M => ptEq x y && lsEq L M
  | _, _ => false
theorem lsEq_eq : ∀ {L M : List Pt}, lsEq L M = true → L = M
  | [], [], _ => rfl
  | x :: L, y :: M, h => by
    simp only [lsEq, Bool.and_eq_true] at h
    have hx : x = y := by
      have q := h.1
      obtain ⟨a0, a1, a2, a3, a4, a5, a6, a7, a8, a9, a10⟩ := x
      obtain ⟨b0, b1, b2, b3, b4, b5, b6, b7, b8, b9, b10⟩ := y
      simpa [ptEq] using q
    rw [hx, lsEq_eq h.2]
  | [], _ :: _, h => by simp [lsEq] at h
  | _ :: _, [], h => by simp [lsEq] at h
def bls : List Bool := [false, true]
def raiseChk : Bool := (List.range 9).all fun i => bls.all fun b0 => bls.all fun b1 => bls.all fun b2 => bls.all fun b3 =>
  lsEq (reactL (((i + 1 : Nat)) : Int) (mkB b0 b1 b2 b3) (linkIk 0)) (mkB true b1 b2 b3) && lsEq (reactL (((i + 1 : Nat)) : Int) (mkB b0 b1 b2 b3) (linkIk 1)) (mkB b0 true b2 b3) && lsEq (reactL (((i + 1 : Nat)) : Int) (mkB b0 b1 b2 b3) (linkIk 2)) (mkB b0 b1 true b3) && lsEq (reactL (((i + 1 : Nat)) : Int) (mkB b0 b1 b2 b3) (linkIk 3)) (mkB b0 b1 b2 true)
set_option maxRecDepth 100000 in
theorem raise_chk : raiseChk = true := by kernel_rfl
theorem raise_all {id : Int} (h : 1 ≤ id ∧ id ≤ 9) (b0 b1 b2 b3 : Bool) : reactL id (mkB b0 b1 b2 b3) (linkIk 0) = mkB true b1 b2 b3 ∧ reactL id (mkB b0 b1 b2 b3) (linkIk 1) = mkB b0 true b2 b3 ∧ reactL id (mkB b0 b1 b2 b3) (linkIk 2) = mkB b0 b1 true b3 ∧ reactL id (mkB b0 b1 b2 b3) (linkIk 3) = mkB b0 b1 b2 true := by
  have hc := raise_chk
  unfold raiseChk at hc
  have hb : ∀ b : Bool, b ∈ bls := fun b => by cases b <;> simp [bls]
  have := List.all_eq_true.1 hc (id.toNat - 1) (List.mem_range.2 (by omega))
  have := List.all_eq_true.1 this b0 (hb b0)
  have := List.all_eq_true.1 this b1 (hb b1)
  have := List.all_eq_true.1 this b2 (hb b2)
  have := List.all_eq_true.1 this b3 (hb b3)
  rw [show (((id.toNat - 1 + 1 : Nat)) : Int) = id by omega] at this
  simp only [Bool.and_eq_true] at this
  obtain ⟨⟨⟨t0, t1⟩, t2⟩, t3⟩ := this
  exact ⟨lsEq_eq t0, lsEq_eq t1, lsEq_eq t2, lsEq_eq t3⟩
theorem raise_S {id : Int} (h : 1 ≤ id ∧ id ≤ 9) (S : Nat → Bool) {p : Nat} (hp : p < 4) : reactL id (mkS S) (linkIk (p : Int)) = mkS (fun x => S x || x == p) := by
  have r := raise_all h (S 0) (S 1) (S 2) (S 3)
  have e : ∀ T : Nat → Bool, mkS T = mkB (T 0) (T 1) (T 2) (T 3) := fun T => rfl
  rw [e, e]
  rcases (by omega : p = 0 ∨ p = 1 ∨ p = 2 ∨ p = 3) with rfl | rfl | rfl | rfl
  · simpa using r.1
  · simpa using r.2.1
  · simpa using r.2.2.1
  · simpa using r.2.2.2
theorem mkS_len (S : Nat → Bool) : (mkS S).length = 4 := rfl
theorem mkS_congr {S T : Nat → Bool} (h : ∀ x, x < 4 → S x = T x) : mkS S = mkS T := by
  unfold mkS
  rw [h 0 (by omega), h 1 (by omega), h 2 (by omega), h 3 (by omega)]
theorem mkS_none : mkS (fun _ => false) = List.replicate 4 Pt.nil := rfl
/-- A bridge of a new net. -/
def newBg (id : Int) (S : Nat → Bool) : Bg := if nOk id 4 then ⟨id, mkS S⟩ else ⟨0, []⟩
theorem newBg_0 (id : Int) : newBg id (fun _ => false) = ⟨newI id 4, newL id 4⟩ := by
  unfold newBg newI newL
  by_cases h : nOk id 4 = true
  · rw [if_pos h, if_pos h, if_pos h]; rfl
  · rw [if_neg h, if_neg h, if_neg h]
theorem newBg_congr {id : Int} {S T : Nat → Bool} (h : ∀ x, x < 4 → S x = T x) : newBg id S = newBg id T := by
  unfold newBg
  rw [mkS_congr h]
theorem nOk_4 {id : Int} (h : nOk id 4 = true) : 1 ≤ id ∧ id ≤ 9 := by
  unfold nOk at h
  simp only [Bool.and_eq_true, decide_eq_true_eq] at h
  exact h.1
theorem newBg_len (id : Int) (S : Nat → Bool) : (newBg id S).L.length ≤ 4 := by
  unfold newBg
  split
  · exact Nat.le_refl _
  · exact Nat.zero_le _
theorem newBg_raise (id : Int) (S : Nat → Bool) {p : Nat} (hp : p < (newBg id S).L.length) : (⟨(newBg id S).id, reactL (newBg id S).id (newBg id S).L (linkIk (p : Int))⟩ : Bg) = newBg id (fun x => S x || x == p) := by
  unfold newBg at hp ⊢
  by_cases h : nOk id 4 = true
  · rw [if_pos h] at hp ⊢
    rw [if_pos h]
    dsimp only
    rw [raise_S (nOk_4 h) S hp]
  · rw [if_neg h] at hp
    simp at hp
/-- The first n bridges of a new net. -/
def netN (ids : List Int) (T : Nat → Nat → Bool) (n : Nat) : List Bg := (List.range n).map fun i => newBg (ids.getD i 0) (T i)
theorem netN_len (ids : List Int) (T : Nat → Nat → Bool) (n : Nat) : (netN ids T n).length = n := by simp [netN]
theorem netN_get (ids : List Int) (T : Nat → Nat → Bool) {n i : Nat} (h : i < n) : (netN ids T n).getD i Bg.nil = newBg (ids.getD i 0) (T i) := by simp [netN, List.getD, h]
theorem netN_succ (ids : List Int) (T : Nat → Nat → Bool) (n : Nat) : netN ids T (n + 1) = netN ids T n ++ [newBg (ids.getD n 0) (T n)] := by simp [netN, List.range_succ]
theorem netN_congr {ids : List Int} {T U : Nat → Nat → Bool} {n : Nat} (h : ∀ i x, i < n → x < 4 → T i x = U i x) : netN ids T n = netN ids U n := by
  unfold netN
  refine List.map_congr_left fun i hi => newBg_congr fun x hx => h i x (List.mem_range.1 hi) hx
/-- Ports that some link names. -/
def ofK (K : List Lk) (i x : Nat) : Bool := decide (0 < onceL K i x)
/-- A port that comes up, if there is one. -/
def lift (T : Nat → Nat → Bool) (a p : Int) : Nat → Nat → Bool := fun i x => T i x || (decide ((i : Int) = a) && decide ((x : Int) = p))
theorem lift_no {ids : List Int} {T : Nat → Nat → Bool} {n : Nat} {a p : Int} (h : ¬ PortP (netN ids T n) a p) : netN ids (lift T a p) n = netN ids T n := by
  unfold netN
  refine List.map_congr_left fun i hi => ?_
  have hi := List.mem_range.1 hi
  by_cases q : nOk (ids.getD i 0) 4 = true
  · refine newBg_congr fun x hx => ?_
    unfold lift
    by_cases e : (i : Int) = a ∧ (x : Int) = p
    · exfalso
      refine h ⟨⟨by omega, by rw [netN_len]; omega⟩, by omega, ?_⟩
      rw [show a.toNat = i by omega, netN_get _ _ hi]
      unfold newBg
      rw [if_pos q]
      show p < ((mkS (T i)).length : Int)
      rw [mkS_len]
      omega
    · have : (decide ((i : Int) = a) && decide ((x : Int) = p)) = false := by
        rw [Bool.and_eq_false_iff]
        simp only [decide_eq_false_iff_not]
        by_cases e1 : (i : Int) = a
        · exact .inr (fun e2 => e ⟨e1, e2⟩)
        · exact .inl e1
      rw [this, Bool.or_false]
  · unfold newBg
    rw [if_neg q, if_neg q]
theorem lift_yes {ids : List Int} {T : Nat → Nat → Bool} {n : Nat} {a p : Nat} (ha : a < n) (hp : p < ((netN ids T n).getD a Bg.nil).L.length) : (netN ids T n).set a ⟨((netN ids T n).getD a Bg.nil).id, reactL ((netN ids T n).getD a Bg.nil).id ((netN ids T n).getD a Bg.nil).L (linkIk (p : Int))⟩ = netN ids (lift T a p) n := by
  rw [netN_get _ _ ha] at hp ⊢
  rw [newBg_raise _ _ hp]
  refine List.ext_getElem (by simp [netN]) fun i h1 h2 => ?_
  have hi : i < n := by simpa [netN] using h2
  rw [List.getElem_set]
  by_cases e : a = i
  · subst e
    rw [if_pos rfl]
    simp only [netN, List.getElem_map, List.getElem_range]
    refine newBg_congr fun x _ => ?_
    unfold lift
    by_cases ex : x = p
    · subst ex; simp
    · have : ¬ (x : Int) = (p : Int) := by omega
      simp [ex, this]
  · rw [if_neg e]
    simp only [netN, List.getElem_map, List.getElem_range]
    refine newBg_congr fun x _ => ?_
    unfold lift
    have : ¬ (i : Int) = (a : Int) := by omega
    simp [this]
theorem ofK_take (K : List Lk) {j : Nat} (h : j < K.length) (i x : Nat) : lift (lift (ofK (K.take j)) (K.getD j Lk.nil).a (K.getD j Lk.nil).p) (K.getD j Lk.nil).b (K.getD j Lk.nil).q i x = ofK (K.take (j + 1)) i x := by
  unfold lift ofK
  rw [once_take K _ _ h]
  have h0 := once_nonneg (K.take j) i x
  generalize onceL (K.take j) i x = o at h0 ⊢
  generalize K.getD j Lk.nil = l
  by_cases c1 : l.a = (i : Int) ∧ l.p = (x : Int)
  · rw [if_pos c1]
    have e1 : ((i : Int) = l.a) := c1.1.symm
    have e2 : ((x : Int) = l.p) := c1.2.symm
    rw [decide_eq_true e1, decide_eq_true e2]
    have : decide (0 < o + (1 + if l.b = (i : Int) ∧ l.q = (x : Int) then 1 else 0)) = true := decide_eq_true (by split <;> omega)
    rw [this]
    simp
  · rw [if_neg c1]
    have e1 : (decide ((i : Int) = l.a) && decide ((x : Int) = l.p)) = false := by
      rw [Bool.and_eq_false_iff]
      simp only [decide_eq_false_iff_not]
      by_cases q : (i : Int) = l.a
      · exact .inr (fun e2 => c1 ⟨q.symm, e2.symm⟩)
      · exact .inl q
    rw [e1, Bool.or_false]
    by_cases c2 : l.b = (i : Int) ∧ l.q = (x : Int)
    · rw [if_pos c2]
      rw [decide_eq_true (show (i : Int) = l.b from c2.1.symm), decide_eq_true (show (x : Int) = l.q from c2.2.symm)]
      rw [decide_eq_true (show 0 < o + (0 + 1) by omega)]
      simp
    · rw [if_neg c2]
      have e2 : (decide ((i : Int) = l.b) && decide ((x : Int) = l.q)) = false := by
        rw [Bool.and_eq_false_iff]
        simp only [decide_eq_false_iff_not]
        by_cases q : (i : Int) = l.b
        · exact .inr (fun e2 => c2 ⟨q.symm, e2.symm⟩)
        · exact .inl q
      rw [e2, Bool.or_false]
      simp
/-- Whether they make a net. -/
def NewP (ids : List Int) (K : List Lk) : Prop := ids.length ≤ 5 ∧ NetP (netN ids (ofK K) ids.length) K

end Go.Proofs.Ytdfjfodfnildiab
