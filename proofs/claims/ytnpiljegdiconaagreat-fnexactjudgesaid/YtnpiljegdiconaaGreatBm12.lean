/- What React leaves, in plain lists. -/
import Derived.Test.YtnpiljegdiconaaGreatRows
import Derived.WalkKit
import Derived.ProofKit
import Derived.OpenShut
import Derived.ShutString
import Derived.ChangeOld
import Derived.Below
import Derived.Deep.QuietTactic
import Derived.BigQuiet
import Derived.WalkSmall
import Derived.Laws.OwnMore
import Derived.WalkSpells
import Derived.WalkLawsBesides
import Derived.Test.YtnpiljegdiconaaGreatRe3
namespace Go.Proofs.YtnpiljegdiconaaGreat
open Go.ChangeShapes Go.WideShapes Go.ChangeAt Go.RowKit
open Go.ChangeMaps (open_string shut_string)
set_option linter.unusedVariables false
set_option maxRecDepth 100000

/-- One at most leads to the least. -/
theorem decide_once {id : Int} {L : List Pt} (h : bOk id L = true) {i j : Nat} (hi : i < L.length) (hj : j < L.length) (e1 : ((decideR id L).getD i Pt.nil).ro = 1) (e2 : ((decideR id L).getD j Pt.nil).ro = 1) : i = j := by
  have key : ∀ k, k < L.length → ((decideR id L).getD k Pt.nil).ro = 1 → rootO id L = some k := by
    intro k hk e
    rw [decideR_at h hk] at e
    have hp := (bOk_all h).2.2 k
    unfold turnUp at e
    by_cases hu : (L.getD k Pt.nil).up = true
    · rw [if_pos hu] at e
      unfold turnR at e
      have hr := roleR_in id L k
      have hra : raUp (roleR id L k) = true := by unfold raUp; exact decide_eq_true hr
      rw [hp, hu, hra] at e
      have e : roleR id L k = 1 := by simpa using e
      unfold roleR at e
      by_cases hq : rootO id L = some k
      · exact hq
      · rw [if_neg hq] at e
        split at e <;> omega
    · rw [if_neg hu] at e
      have hp2 := (pOk_parts.1 hp).2.1
      rw [e] at hp2
      exact absurd hp2 (by intro q; rw [q] at hu; exact hu (by decide))
  have h1 := key i hi e1
  have h2 := key j hj e2
  rw [h1] at h2
  exact Option.some.inj h2
/-- A gate that turns. -/
def applyG (G : List Bool) (o : Ou) : List Bool := if o.k = 2 then G.set o.pt.toNat o.on else G
theorem applyG_len (O : List Ou) : ∀ G : List Bool, (O.foldl applyG G).length = G.length := by
  induction O with
  | nil => intro G; rfl
  | cons o O ih =>
    intro G
    rw [List.foldl_cons, ih]
    unfold applyG
    split <;> simp
theorem gates_apply (L M : List Pt) (hl : L.length = M.length) : ∀ n, n ≤ L.length → ∀ j, j < L.length → ((gatesTo L M n).foldl applyG (L.map Pt.op)).getD j false = if j < n then (M.getD j Pt.nil).op else (L.getD j Pt.nil).op
  | 0, _, j, hj => by simp [gatesTo, List.getD, hj]
  | n + 1, hn, j, hj => by
    have ih := gates_apply L M hl n (by omega)
    have ihl : ((gatesTo L M n).foldl applyG (L.map Pt.op)).length = L.length := by rw [applyG_len, List.length_map]
    simp only [gatesTo]
    by_cases e : (M.getD n Pt.nil).op = (L.getD n Pt.nil).op
    · rw [if_pos e, List.append_nil, ih j hj]
      by_cases h1 : j < n
      · rw [if_pos h1, if_pos (by omega)]
      · by_cases h2 : j = n
        · subst h2
          rw [if_neg (by omega), if_pos (by omega), e]
        · rw [if_neg h1, if_neg (by omega)]
    · rw [if_neg e, List.foldl_append]
      show (applyG _ (gateO n (M.getD n Pt.nil).op)).getD j false = _
      unfold applyG gateO
      rw [if_pos rfl]
      show ((((gatesTo L M n).foldl applyG (L.map Pt.op))).set n (M.getD n Pt.nil).op).getD j false = _
      by_cases h2 : j = n
      · subst h2
        rw [if_pos (by omega)]
        have hj2 : j < ((gatesTo L M j).foldl applyG (L.map Pt.op)).length := by omega
        simp [List.getD, hj2]
      · have := ih j hj
        rw [show (List.set ((gatesTo L M n).foldl applyG (L.map Pt.op)) n (M.getD n Pt.nil).op).getD j false = ((gatesTo L M n).foldl applyG (L.map Pt.op)).getD j false by simp [List.getD, List.getElem?_set_ne (Ne.symm h2)], this]
        by_cases h1 : j < n
        · rw [if_pos h1, if_pos (by omega)]
        · rw [if_neg h1, if_neg (by omega)]
theorem told_apply (id : Int) (M : List Pt) (G : List Bool) : ∀ n, (toldTo id M n).foldl applyG G = G
  | 0 => rfl
  | n + 1 => by
    simp only [toldTo]
    rw [List.foldl_append, told_apply id M G n]
    split
    · rfl
    · rfl
/-- It says just which gates turn. -/
theorem react_gates (id : Int) (L : List Pt) (x : Ik) {j : Nat} (hj : j < L.length) : ((reactO id L x).foldl applyG (L.map Pt.op)).getD j false = ((reactL id L x).getD j Pt.nil).op := by
  unfold reactO reactL
  by_cases g : goes id L x = true
  · rw [if_pos g, if_pos g, List.foldl_append]
    have e : ((if x.k = 2 then toldTo id (afterL id L x) L.length else []).foldl applyG ((gatesTo L (afterL id L x) L.length).foldl applyG (L.map Pt.op))) = (gatesTo L (afterL id L x) L.length).foldl applyG (L.map Pt.op) := by
      split
      · exact told_apply _ _ _ _
      · rfl
    rw [e, gates_apply L (afterL id L x) (afterL_len id L x).symm L.length (Nat.le_refl _) j hj, if_pos hj]
  · rw [if_neg g, if_neg g]
    simp [List.getD, hj]
theorem set_okB {id : Int} {L : List Pt} {y : Nat} {v : Pt} (h : bOk id L = true) (hy : y < L.length) (hv : pOk v = true) : bOk id (L.set y v) = true := by
  obtain ⟨h1, h2, h3⟩ := bOk_all h
  refine bOk_of h1 (by rw [List.length_set]; exact h2) (fun i hi => ?_)
  rw [List.length_set] at hi
  by_cases e : i = y
  · subst e
    rw [show (L.set i v).getD i Pt.nil = v by simp [List.getD, hy]]
    exact hv
  · rw [show (L.set y v).getD i Pt.nil = L.getD i Pt.nil by simp [List.getD, List.getElem?_set_ne (Ne.symm e)]]
    exact h3 i
/-- Whatever comes leaves it right: it stays as it was, or is decided anew of what is right. -/
theorem react_is {id : Int} {L : List Pt} {x : Ik} (h : bOk id L = true) : reactL id L x = L ∨ ∃ M, bOk id M = true ∧ M.length = L.length ∧ reactL id L x = decideR id M := by
  unfold reactL
  by_cases g : goes id L x = true
  · rw [if_pos g]
    have hq : 0 ≤ x.q ∧ x.q < (L.length : Int) := by
      unfold goes at g
      simp only [Bool.and_eq_true, decide_eq_true_eq] at g
      exact g.2.2
    have hy : x.q.toNat < L.length := by omega
    have h3 := (bOk_all h).2.2 x.q.toNat
    unfold afterL
    by_cases k1 : x.k = 1
    · rw [if_pos k1]
      exact .inr ⟨_, set_okB h hy (claim_ok h3), by simp, rfl⟩
    · rw [if_neg k1]
      by_cases k2 : x.k = 2
      · rw [if_pos k2]
        exact .inr ⟨_, tickM_ok h, by simp, rfl⟩
      · rw [if_neg k2]
        by_cases u : (L.getD x.q.toNat Pt.nil).up = x.up
        · rw [if_pos u]; exact .inl rfl
        · rw [if_neg u]
          exact .inr ⟨_, set_okB h hy (link_ok _), by simp, rfl⟩
  · rw [if_neg g]; exact .inl rfl
theorem react_right {id : Int} {L : List Pt} {x : Ik} (h : bOk id L = true) : bOk id (reactL id L x) = true := by
  rcases react_is (x := x) h with e | ⟨M, hM, _, e⟩
  · rw [e]; exact h
  · rw [e]; exact decideR_ok hM
theorem react_once {id : Int} {L : List Pt} {x : Ik} (h : bOk id L = true) : reactL id L x = L ∨ ∀ i j, i < L.length → j < L.length → ((reactL id L x).getD i Pt.nil).ro = 1 → ((reactL id L x).getD j Pt.nil).ro = 1 → i = j := by
  rcases react_is (x := x) h with e | ⟨M, hM, hl, e⟩
  · exact .inl e
  · refine .inr (fun i j hi hj => ?_)
    rw [e]
    exact decide_once hM (by omega) (by omega)
theorem react_not {id : Int} {L : List Pt} {x : Ik} (h : bOk id L = false) : reactL id L x = L ∧ reactO id L x = [] := by
  unfold reactL reactO goes
  simp [h]

end Go.Proofs.YtnpiljegdiconaaGreat
