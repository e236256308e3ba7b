/- What impl.inAt finds, in plain lists. -/
import Derived.Test.YtlnogijlfompoaaDoorRows
import Derived.WalkKit
import Derived.ProofKit
import Derived.OpenShut
import Derived.ShutString
import Derived.ChangeOld
import Derived.Below
import Derived.Deep.QuietTactic
import Derived.BigQuiet
import Derived.WalkSmall
import Derived.Laws.OwnMore
import Derived.WalkSpells
import Derived.WalkLawsBesides
import Derived.Test.YtlnogijlfompoaaDoorInMath
namespace Go.Proofs.YtlnogijlfompoaaDoor
open Go.ChangeShapes Go.WideShapes Go.ChangeAt Go.RowKit
open Go.ChangeMaps (open_string shut_string)
set_option linter.unusedVariables false
set_option maxRecDepth 100000

/-- One number at a place. -/
def numAtL (L : List Int) (a : Int) : Option (Int × Int) := getFrom L.length a (fun i => L.getD (a.toNat + i) 0) 5 0
/-- So many numbers, one behind the other. -/
def rdAll (L : List Int) : Nat → Int → Option (List Int × Int)
  | 0, a => some ([], a)
  | c + 1, a => match numAtL L a with
    | none => none
    | some (n, s) => match rdAll L c s with
      | none => none
      | some (M, e) => some (n :: M, e)
/-- How many numbers are written of a kind. -/
def cntK (k : Int) : Nat := if k = 1 then 7 else if k = 3 then 3 else 2
theorem cntK_inN (k q r c b p h : Int) (up : Bool) : (inN ⟨k, q, r, c, b, p, h, up⟩).length = cntK k := by
  unfold inN cntK
  simp only
  split
  · rfl
  · split <;> rfl
def kindAt (L : List Int) (a : Int) : Int := match numAtL L a with | none => 0 | some (n, _) => n
/-- What impl.inAt finds. -/
def implAt (L : List Int) (a : Int) : Option (Ik × Int) :=
  match rdAll L (cntK (kindAt L a)) a with
  | none => none
  | some (M, e) => if e + 4 ≤ L.length ∧ inBy (inC fun j => M.getD j 0) = (L.drop a.toNat).take (e + 4 - a).toNat then some (inC fun j => M.getD j 0, e + 4) else none
theorem numAtL_some {L : List Int} {a n s : Int} (h : numAtL L a = some (n, s)) : 0 ≤ a ∧ a < s ∧ s ≤ L.length := by
  obtain ⟨q, _, _, _, q1, q2, q3, q4, _, rfl⟩ := getFrom_some _ _ h
  omega
theorem rdAll_some {L : List Int} : ∀ {c : Nat} {a : Int} {M : List Int} {e : Int}, rdAll L c a = some (M, e) → M.length = c ∧ a + c ≤ e ∧ (0 < c → 0 ≤ a ∧ e ≤ L.length)
  | 0, a, M, e, h => by
    simp [rdAll] at h
    obtain ⟨rfl, rfl⟩ := h
    simp
  | c + 1, a, M, e, h => by
    rw [rdAll] at h
    split at h
    · cases h
    · next n s hs =>
      obtain ⟨s0, s1, s2⟩ := numAtL_some hs
      split at h
      · cases h
      · next M' e' hr =>
        simp only [Option.some.injEq, Prod.mk.injEq] at h
        obtain ⟨rfl, rfl⟩ := h
        obtain ⟨r1, r2, r3⟩ := rdAll_some hr
        refine ⟨by simp [r1], by push_cast; omega, fun _ => ⟨s0, ?_⟩⟩
        cases c with
        | zero => simp [rdAll] at hr; omega
        | succ c => exact (r3 (by omega)).2
theorem rdAll_head {L : List Int} {c : Nat} {a : Int} {M : List Int} {e : Int} (h : rdAll L (c + 1) a = some (M, e)) : M.getD 0 0 = kindAt L a := by
  rw [rdAll] at h
  unfold kindAt
  split at h
  · cases h
  · next n s hs =>
    split at h
    · cases h
    · simp only [Option.some.injEq, Prod.mk.injEq] at h
      obtain ⟨rfl, rfl⟩ := h
      rfl
theorem inC_ok (M : List Int) : (inC fun j => M.getD j 0).k = M.getD 0 0 := by
  unfold inC
  split
  · next h => exact h.symm
  · split
    · next h => exact h.symm
    · rfl
theorem numAt_small {L : List Int} {a v : Int} (h0 : 0 ≤ a) (h1 : a < L.length) (hv : L.getD a.toNat 0 = v) (v0 : 0 ≤ v) (v1 : v < 128) : numAtL L a = some (v, a + 1) := by
  unfold numAtL
  rw [get_small h0 h1 (by simp only [Nat.add_zero]; rw [hv]; exact v0) (by simp only [Nat.add_zero]; rw [hv]; exact v1)]
  simp only [Nat.add_zero, hv]
/-- Small numbers, one byte each, are read as they stand. -/
theorem rdAll_small {L : List Int} : ∀ (N : List Int) (a : Int), 0 ≤ a → a + N.length ≤ L.length → (∀ j, j < N.length → L.getD (a.toNat + j) 0 = N.getD j 0) → (∀ y ∈ N, 0 ≤ y ∧ y < 128) → rdAll L N.length a = some (N, a + N.length)
  | [], a, _, _, _, _ => by simp [rdAll]
  | n :: N, a, h0, h1, h2, h3 => by
    simp only [List.length_cons] at h1 h2 ⊢
    have hn := h3 n (by simp)
    have e0 := h2 0 (by omega)
    simp only [Nat.add_zero, List.getD_cons_zero] at e0
    rw [rdAll, numAt_small h0 (by omega) e0 hn.1 hn.2]
    simp only
    rw [rdAll_small N (a + 1) (by omega) (by omega) (fun j hj => by
      have := h2 (j + 1) (by omega)
      simp only [List.getD_cons_succ] at this
      rw [← this]
      congr 1
      omega) (fun y hy => h3 y (by simp [hy]))]
    simp only [Option.some.injEq, Prod.mk.injEq, true_and]
    omega
theorem implAt_eq (L : List Int) (a : Int) : implAt L a = inAt L a := by
  cases hx : inAt L a with
  | some y =>
    obtain ⟨x, s⟩ := y
    obtain ⟨x0, x1, x2, x3, x4⟩ := inAt_some hx
    have hb : inBy x = inN x ++ low4 (sumL (inN x)) := by unfold inBy; rw [if_pos x0]
    have hl : (inBy x).length = (inN x).length + 4 := by rw [hb]; simp [low4]
    have hg : ∀ j, j < (inN x).length → L.getD (a.toNat + j) 0 = (inN x).getD j 0 := by
      intro j hj
      have e : (inBy x).getD j 0 = (inN x).getD j 0 := by rw [hb]; simp [List.getD, List.getElem?_append_left hj]
      rw [← e, ← x4]
      simp only [List.getD, List.getElem?_take, List.getElem?_drop]
      rw [if_pos (by omega)]
    have hr := rdAll_small (L := L) (inN x) a x1 (by omega) hg (inOk_N x0)
    have hk : kindAt L a = x.k := by
      have h2 : (inN x).getD 0 0 = x.k := by unfold inN; (repeat' split) <;> rfl
      have h3 : 0 < (inN x).length := by unfold inN; (repeat' split) <;> simp
      obtain ⟨c, hc⟩ : ∃ c, (inN x).length = c + 1 := ⟨(inN x).length - 1, by omega⟩
      rw [hc] at hr
      rw [← h2, rdAll_head hr]
    have hc : (inN x).length = cntK x.k := by
      obtain ⟨k, q, r, c, b, p, h, up⟩ := x
      exact cntK_inN k q r c b p h up
    unfold implAt
    rw [hk, ← hc, hr]
    simp only
    have hC : inC (fun j => (inN x).getD j 0) = x := inC_N x0 (fun j _ => rfl)
    rw [hC, if_pos ⟨by omega, by rw [← x4]; congr 1; omega⟩]
    simp only [Option.some.injEq, Prod.mk.injEq, true_and]
    omega
  | none =>
    unfold implAt
    split
    · rfl
    · next M e hr =>
      split
      · next c =>
        exfalso
        obtain ⟨c1, c2⟩ := c
        obtain ⟨r1, r2, r3⟩ := rdAll_some hr
        have hp : 2 ≤ cntK (kindAt L a) := by unfold cntK; (repeat' split) <;> omega
        obtain ⟨r4, r5⟩ := r3 (by omega)
        have hlen : (inBy (inC fun j => M.getD j 0)).length = (e + 4 - a).toNat := by
          rw [c2, List.length_take, List.length_drop]
          omega
        have hk : inOk (inC fun j => M.getD j 0) = true := by
          by_cases k : inOk (inC fun j => M.getD j 0) = true
          · exact k
          · have : inBy (inC fun j => M.getD j 0) = [] := by unfold inBy; rw [if_neg k]
            rw [this] at hlen
            simp at hlen
            omega
        rw [inAt_yes hk r4 (by omega) (by rw [hlen, c2])] at hx
        cases hx
      · rfl

end Go.Proofs.YtlnogijlfompoaaDoor
