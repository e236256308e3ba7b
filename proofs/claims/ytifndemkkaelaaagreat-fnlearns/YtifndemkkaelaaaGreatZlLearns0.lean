/- learns0 -/
import Derived.Test.YtifndemkkaelaaaGreatRows
import Derived.WalkKit
import Derived.ProofKit
import Derived.OpenShut
import Derived.ShutString
import Derived.ChangeOld
import Derived.Below
import Derived.Deep.QuietTactic
import Derived.BigQuiet
import Derived.WalkSmall
import Derived.Laws.OwnMore
import Derived.WalkSpells
import Derived.WalkLawsBesides
import Derived.Test.YtifndemkkaelaaaGreatZl41
import Derived.Test.YtifndemkkaelaaaGreatZl23
import Derived.Test.YtifndemkkaelaaaGreatZl15
import Derived.Test.YtifndemkkaelaaaGreatZl11
import Derived.Test.YtifndemkkaelaaaGreatZlGateI
namespace Go.Proofs.YtifndemkkaelaaaGreat
open Go.ChangeShapes Go.WideShapes Go.ChangeAt Go.RowKit
open Go.ChangeMaps (open_string shut_string)
set_option linter.unusedVariables false
set_option maxRecDepth 100000

theorem whereTrue (L : List Hd) (a v : Int) : (whereR L a v).2 = true ↔ ∃ h ∈ L, h.a = a ∧ h.v = v := by
  induction L with
  | nil => simp [whereR]
  | cons h t ih =>
    unfold whereR
    by_cases e : h.a = a ∧ h.v = v
    · rw [if_pos e]
      exact ⟨fun _ => ⟨h, by simp, e⟩, fun _ => rfl⟩
    · rw [if_neg e, ih]
      constructor
      · rintro ⟨x, hx, hk⟩
        exact ⟨x, by simp [hx], hk⟩
      · rintro ⟨x, hx, hk⟩
        rcases List.mem_cons.1 hx with rfl | hx
        · exact absurd hk e
        · exact ⟨x, hx, hk⟩
theorem where_one : ∀ {L : List Hd} {x : Hd}, Str L → x ∈ L → whereR L x.a x.v = (x.p, true)
  | [], x, _, hx => by cases hx
  | h :: t, x, hs, hx => by
    have hs' : (∀ y ∈ t, h.bef y = true) ∧ Str t := List.pairwise_cons.1 hs
    unfold whereR
    by_cases e : h.a = x.a ∧ h.v = x.v
    · rw [if_pos e]
      rcases List.mem_cons.1 hx with rfl | hx
      · rfl
      · have := hs'.1 x hx
        unfold Hd.bef at this
        simp only [decide_eq_true_eq] at this
        omega
    · rw [if_neg e]
      rcases List.mem_cons.1 hx with rfl | hx
      · exact absurd ⟨rfl, rfl⟩ e
      · exact where_one hs'.2 hx
theorem tok_of_str {L : List Hd} (h1 : Str L) (h2 : ∀ x ∈ L, x.fits = true) (h3 : L.length ≤ 12) : TOk L := by
  refine ⟨h3, fun i hi => h2 _ (by simp [List.getD, List.getElem?_eq_getElem hi]), fun i hi hp => ?_⟩
  have h4 := List.pairwise_iff_getElem.1 h1 (i - 1) i (by omega) hi (by omega)
  have e1 : L.getD i Hd.nil = L[i] := by simp [List.getD, List.getElem?_eq_getElem hi]
  have e2 : L.getD (i - 1) Hd.nil = L[i - 1] := by simp [List.getD, List.getElem?_eq_getElem (by omega : i - 1 < L.length)]
  rw [e1, e2]
  exact h4
theorem hear_where {T : List Hd} {x : Hd} (h : TOk T) (hx : x.fits = true) : whereR (hearR T x) x.a x.v = (x.p, true) ∨ T.length = 12 := by
  have hs := insS_str x (str_of_tok h)
  have hp := insS_perm x T
  unfold hearR
  by_cases q : tokB (insS x false T) = true
  · rw [if_pos q]
    exact .inl (where_one hs (hp.mem_iff.2 (by simp)))
  · refine .inr ?_
    have hl : ¬ (insS x false T).length ≤ 12 := fun hl => q (tokB_yes (tok_of_str hs (fun y hy => by
      rcases insS_mem hy with rfl | hy
      · exact hx
      · obtain ⟨i, hi, rfl⟩ := List.getElem_of_mem hy
        have := h.2.1 i hi
        simpa [List.getD, List.getElem?_eq_getElem hi] using this) hl))
    have h1 := hp.length_eq
    rw [List.length_append] at h1
    have h2 := List.length_filter_le (fun h => !(h.same x)) T
    have h3 := h.1
    simp only [List.length_singleton] at h1
    omega
theorem forgot_where {T : List Hd} {p a v : Int} (h : TOk T) (hw : whereR T a v = (p, true)) : (whereR (forgot p T) a v).2 = false := by
  by_cases q : (whereR (forgot p T) a v).2 = true
  · obtain ⟨x, hx, rfl, rfl⟩ := (whereTrue _ _ _).1 q
    unfold forgot at hx
    have hm := List.mem_filter.1 hx
    have h1 := where_one (str_of_tok h) hm.1
    rw [hw] at h1
    have h2 : p = x.p := congrArg Prod.fst h1
    have h3 := hm.2
    unfold goneF at h3
    simp [h2] at h3
  · simpa using q
theorem ins_fits {own : Int} {f : Nat → Int} {n : Nat} {a b c : Int} {L : List Int} {ra rb rc : Int} {rM : List Int} (h : insR own f n a b c L = ⟨ra, rb, rc, rM, true⟩) : 1 ≤ rb ∧ rb ≤ 9 ∧ 1 ≤ rc ∧ rc ≤ 4 := by
  unfold insR at h
  split at h
  · rename_i q
    obtain ⟨q1, q2, q3⟩ := q
    simp only [FR.mk.injEq] at h
    obtain ⟨_, rfl, rfl, _, _⟩ := h
    unfold okF at q1
    simp only [decide_eq_true_eq] at q1
    unfold mOk at q2
    simp only [Bool.and_eq_true] at q2
    obtain ⟨i, hi, e⟩ := (hasIn_iff _ _ _).1 q3
    have := asc_in q2.1 i hi
    rw [e] at this
    omega
  · have h : FR.no = ⟨ra, rb, rc, rM, true⟩ := h
    unfold FR.no at h
    simp at h
theorem no_outs {O : List Bool} {D : DL} {T : List Hd} {p a b c : Int} {L : List Int} (h : pGo O D T p = false) : pOuts O D T p a b c L = [] := by
  unfold pOuts pIn
  rw [h]
  rfl
theorem no_len {O : List Bool} {D : DL} {T : List Hd} {p a b c : Int} {L : List Int} {XO : OL} {Ns : List Ob} (hX : pOuts O D T p a b c L = XO) (hd : Ns.map Ob.d = XO) (h : pGo O D T p = false) : Ns.length = 0 := by
  have := congrArg List.length hd
  rw [List.length_map, ← hX, no_outs h] at this
  exact this
theorem goesTo_mem {O : List Bool} {D : DL} {p : Int} {x : FR} {kn : Bool} {only : Int} {y : Int × Int × Int × Int × List Int} : ∀ k, y ∈ goesTo O D p x kn only k → ∃ i, y ∈ goesAt O D p x kn only i
  | 0, h => by simp [goesTo] at h
  | k + 1, h => by
    rw [goesTo] at h
    rcases List.mem_append.1 h with q | q
    · exact goesTo_mem k q
    · exact ⟨k, q⟩
theorem back_only {O : List Bool} {D : DL} {T : List Hd} {p i b v : Int} (hw : whereR T b v = (p, true)) (hb : b ≠ 0) (hv : v ≠ 0) {Ns : List Ob} (h : Ns.map Ob.d = pOuts O D T i b 9 v []) (j : Nat) (hj : j < Ns.length) : (Ns.getD j Ob.nil).p = p := by
  have hm : (Ns.getD j Ob.nil).d ∈ pOuts O D T i b 9 v [] := by rw [← h]; exact do_get' Ns j hj
  unfold pOuts at hm
  by_cases q : (pIn O D T i b 9 v []).ok = true
  · rw [if_pos q] at hm
    have he : (pIn O D T i b 9 v []).a = b ∧ (pIn O D T i b 9 v []).c = v := by
      unfold pIn at q ⊢
      by_cases hg : pGo O D T i = true
      · rw [if_pos hg] at q ⊢
        unfold insD insR at q ⊢
        split at q
        · rename_i q'
          rw [if_pos q']
          exact ⟨rfl, by show netOf _ v = v; unfold netOf; rw [if_neg hv]⟩
        · cases q
      · rw [if_neg hg] at q
        cases q
    rw [he.1, he.2, hw] at hm
    have hb' : (b != 0) = true := by simpa using hb
    simp only [hb', Bool.and_true] at hm
    obtain ⟨k, hk⟩ := goesTo_mem _ hm
    have h1 := goesAt_at hk
    by_cases e : (k : Int) = p
    · rw [← e]; exact h1.1
    · rw [goes_other e] at hk
      cases hk
  · rw [if_neg q] at hm
    cases hm
theorem tab_tok {O : List Bool} {D : DL} {T : List Hd} (h : cOk O D T = true) : TOk T := by
  unfold cOk at h
  simp only [Bool.and_eq_true] at h
  exact tokB_of h.2.2.2.2
theorem gT_shut {O : List Bool} {D : DL} {T : List Hd} {i : Nat} (h : cOk O D T = true) (hi : i < O.length) (ho : O.getD i false = true) : gT O D T (i : Int) false = forgot (i : Int) T := by
  unfold gT gTurn
  rw [h, decide_eq_true (⟨by omega, by omega⟩ : 0 ≤ (i : Int) ∧ (i : Int) < (O.length : Int)), Int.toNat_natCast, ho]
  rfl

end Go.Proofs.YtifndemkkaelaaaGreat
