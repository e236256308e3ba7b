/- What is written and read of an In, in plain lists. -/
import Derived.Test.YtlnogijlfompoaaDoorRows
import Derived.WalkKit
import Derived.ProofKit
import Derived.OpenShut
import Derived.ShutString
import Derived.ChangeOld
import Derived.Below
import Derived.Deep.QuietTactic
import Derived.BigQuiet
import Derived.WalkSmall
import Derived.Laws.OwnMore
import Derived.WalkSpells
import Derived.WalkLawsBesides
import Derived.Test.YtlnogijlfompoaaDoorIn1x
import Derived.Test.YtlnogijlfompoaaDoorGetMath9
import Derived.Test.YtlnogijlfompoaaDoorSum9
namespace Go.Proofs.YtlnogijlfompoaaDoor
open Go.ChangeShapes Go.WideShapes Go.ChangeAt Go.RowKit
open Go.ChangeMaps (open_string shut_string)
set_option linter.unusedVariables false
set_option maxRecDepth 100000

/-- A small byte is a number of its own. -/
theorem get_small {len at_ : Int} {g : Nat → Int} (h0 : 0 ≤ at_) (h1 : at_ < len) (g0 : 0 ≤ g 0) (g1 : g 0 < 128) : getFrom len at_ g 5 0 = some (g 0, at_ + 1) := by
  have hv : val g (0 + 1) = g 0 := by simp [val]; omega
  rw [getFrom, if_neg (by simp; omega), if_pos g1, if_neg (by rw [hv]; simp; omega), hv]
  simp
theorem get_out {len at_ : Int} {g : Nat → Int} (h : at_ < 0 ∨ len ≤ at_) : getFrom len at_ g 5 0 = none := by
  rw [getFrom, if_pos (by simp; omega)]
/-- What is read as a number below 128 is one byte. -/
theorem get_byte {len at_ n s : Int} {g : Nat → Int} (hg : ∀ j, 0 ≤ g j) (h : getFrom len at_ g 5 0 = some (n, s)) (hn : n < 128) : n = g 0 ∧ s = at_ + 1 ∧ 0 ≤ at_ ∧ at_ < len ∧ 0 ≤ n := by
  obtain ⟨q, _, _, _, q1, q2, q3, q4, rfl, rfl⟩ := getFrom_some _ _ h
  cases q with
  | zero =>
    have := hg 0
    refine ⟨by simp [val]; omega, by simp, q3, by simpa using q4, (val_bd _ _).1⟩
  | succ q =>
    exfalso
    rw [val_next] at hn
    have hb := (val_bd g (q + 1)).1
    have hz : g (q + 1) ≠ 0 := fun e => q2 (.inl ⟨by omega, e⟩)
    have := hg (q + 1)
    have hm : g (q + 1) % 128 = g (q + 1) := by omega
    rw [hm] at hn
    have hp : (128 : Int) ≤ 128 ^ (q + 1) := by
      have : (0 : Int) < 128 ^ q := Int.pow_pos (by decide)
      rw [Int.pow_succ]; omega
    have : (1 : Int) * 128 ^ (q + 1) ≤ g (q + 1) * 128 ^ (q + 1) := Int.mul_le_mul_of_nonneg_right (by omega) (by omega)
    omega
/-- The numbers of an In, as they are written. -/
def inN (x : Ik) : List Int :=
  if x.k = 1 then [x.k, x.q, x.r, x.c, x.b, x.p, x.h] else if x.k = 3 then [x.k, x.q, if x.up then 1 else 0] else [x.k, x.q]
/-- InBytes. -/
def inBy (x : Ik) : List Int := if inOk x = true then inN x ++ low4 (sumL (inN x)) else []
def Ik.nil : Ik := ⟨0, 0, 0, 0, 0, 0, 0, false⟩
/-- The only In that can begin with these numbers. -/
def inC (g : Nat → Int) : Ik :=
  if g 0 = 1 then ⟨1, g 1, g 2, g 3, g 4, g 5, g 6, false⟩ else if g 0 = 3 then ⟨3, g 1, 0, 0, 0, 0, 0, decide (g 2 = 1)⟩ else ⟨g 0, g 1, 0, 0, 0, 0, 0, false⟩
theorem inOk_N {x : Ik} (h : inOk x = true) : ∀ y ∈ inN x, 0 ≤ y ∧ y < 128 := by
  obtain ⟨k, q, r, c, b, p, hh, up⟩ := x
  unfold inOk at h
  unfold inN
  simp only [vOk] at h ⊢
  by_cases h1 : k = 1
  · simp only [h1, if_pos, Bool.and_eq_true, decide_eq_true_eq] at h ⊢
    obtain ⟨a, v, e, _⟩ := h
    simp
    omega
  · simp only [h1, if_false] at h ⊢
    by_cases h3 : k = 3
    · simp only [h3, if_pos, Bool.and_eq_true, decide_eq_true_eq] at h ⊢
      simp
      refine ⟨by omega, ?_⟩
      split <;> omega
    · simp only [h3, if_false] at h ⊢
      split at h
      · next h2 => have := h; simp at this; simp; omega
      · cases h
theorem inOk_ne {x : Ik} (h : inOk x = true) : 6 ≤ (inBy x).length ∧ (inBy x).length ≤ 11 := by
  unfold inBy
  rw [if_pos h]
  simp only [List.length_append, low4, List.length_cons, List.length_nil]
  unfold inN
  (repeat' split) <;> simp
/-- An In is told by its numbers. -/
theorem inC_N {x : Ik} (h : inOk x = true) {g : Nat → Int} (hg : ∀ j, j < (inN x).length → g j = (inN x).getD j 0) : inC g = x := by
  obtain ⟨k, q, r, c, b, p, hh, up⟩ := x
  unfold inOk at h
  unfold inN at hg
  simp only [vOk] at h hg
  unfold inC
  by_cases h1 : k = 1
  · simp only [h1, if_pos, Bool.and_eq_true, decide_eq_true_eq] at h hg
    have e0 := hg 0 (by simp); have e1 := hg 1 (by simp); have e2 := hg 2 (by simp); have e3 := hg 3 (by simp); have e4 := hg 4 (by simp); have e5 := hg 5 (by simp); have e6 := hg 6 (by simp)
    simp at e0 e1 e2 e3 e4 e5 e6
    rw [if_pos e0, e1, e2, e3, e4, e5, e6, h1]
    have := h.2.2.2
    simp at this
    rw [this]
  · simp only [h1, if_false] at h hg
    by_cases h3 : k = 3
    · simp only [h3, if_pos, Bool.and_eq_true, decide_eq_true_eq] at h hg
      have e0 := hg 0 (by simp); have e1 := hg 1 (by simp); have e2 := hg 2 (by simp)
      simp at e0 e1 e2
      rw [if_neg (by omega), if_pos e0, e1, e2, h3]
      have hz := h.2.2
      simp at hz
      obtain ⟨z1, z2, z3, z4⟩ := h.2.1
      subst z1 z2 z3 z4 hz
      cases up <;> simp
    · simp only [h3, if_false] at h hg
      have e0 := hg 0 (by simp); have e1 := hg 1 (by simp)
      simp at e0 e1
      split at h
      · simp at h
        obtain ⟨z0, z1, z2, z3, z4, z5, z6⟩ := h
        subst z1 z2 z3 z4 z5 z6
        rw [if_neg (by omega), if_neg (by omega), e0, e1]
      · cases h
/-- InOf. -/
def inAt (L : List Int) (a : Int) : Option (Ik × Int) :=
  let x := inC fun j => L.getD (a.toNat + j) 0
  if 0 ≤ a ∧ inBy x ≠ [] ∧ a + (inBy x).length ≤ L.length ∧ (L.drop a.toNat).take (inBy x).length = inBy x then some (x, a + (inBy x).length) else none
theorem inAt_yes {L : List Int} {a : Int} {x : Ik} (h : inOk x = true) (h0 : 0 ≤ a) (h1 : a + (inBy x).length ≤ L.length) (h2 : (L.drop a.toNat).take (inBy x).length = inBy x) : inAt L a = some (x, a + (inBy x).length) := by
  have hx : inC (fun j => L.getD (a.toNat + j) 0) = x := by
    apply inC_N h
    intro j hj
    have hb : inBy x = inN x ++ low4 (sumL (inN x)) := by unfold inBy; rw [if_pos h]
    have hl : (inN x).length ≤ (inBy x).length := by rw [hb]; simp
    have e : (inBy x).getD j 0 = (inN x).getD j 0 := by rw [hb]; simp [List.getD, List.getElem?_append_left hj]
    rw [← e, ← h2]
    simp only [List.getD, List.getElem?_take, List.getElem?_drop]
    rw [if_pos (by omega)]
  unfold inAt
  have hn : inBy x ≠ [] := fun e => by have := inOk_ne h; rw [e] at this; simp at this
  simp only [hx]
  rw [if_pos ⟨h0, hn, h1, h2⟩]
theorem inAt_some {L : List Int} {a s : Int} {x : Ik} (h : inAt L a = some (x, s)) : inOk x = true ∧ 0 ≤ a ∧ s = a + (inBy x).length ∧ a + (inBy x).length ≤ L.length ∧ (L.drop a.toNat).take (inBy x).length = inBy x := by
  unfold inAt at h
  simp only at h
  split at h
  · next c =>
    have e := Option.some.inj h
    rw [Prod.mk.injEq] at e
    obtain ⟨e1, e2⟩ := e
    rw [e1] at c e2
    refine ⟨?_, c.1, e2.symm, c.2.2.1, c.2.2.2⟩
    by_cases k : inOk x = true
    · exact k
    · exact absurd (by unfold inBy; rw [if_neg k]) c.2.1
  · cases h
/-- AllBytes, AllOf. -/
def allB (A : List Ik) : List Int := (A.map inBy).flatten
def allF (L : List Int) : Nat → Int → List Ik × Int
  | 0, a => ([], a)
  | f + 1, a => match inAt L a with
    | none => ([], a)
    | some (x, s) => (x :: (allF L f s).1, (allF L f s).2)
/-- What AllOf read, written again, is what was there. -/
theorem allF_back (L : List Int) : ∀ (f : Nat) (a : Int), 0 ≤ a → a ≤ L.length → a ≤ (allF L f a).2 ∧ (allF L f a).2 ≤ L.length ∧ allB (allF L f a).1 = (L.drop a.toNat).take ((allF L f a).2 - a).toNat ∧ ∀ x ∈ (allF L f a).1, inOk x = true
  | 0, a, h0, h1 => by simp [allF, allB]; omega
  | f + 1, a, h0, h1 => by
    rw [allF]
    cases hx : inAt L a with
    | none => simp [allB]; omega
    | some y =>
      obtain ⟨x, s⟩ := y
      obtain ⟨x0, x1, x2, x3, x4⟩ := inAt_some hx
      obtain ⟨i1, i2, i3, i4⟩ := allF_back L f s (by omega) (by omega)
      refine ⟨by simp; omega, i2, ?_, ?_⟩
      · simp only [allB, List.map_cons, List.flatten_cons]
        rw [show (List.map inBy (allF L f s).1).flatten = allB (allF L f s).1 from rfl, i3, ← x4]
        generalize (allF L f s).2 = e at *
        have hl : (List.take (inBy x).length (List.drop a.toNat L)).length = (inBy x).length := by rw [x4]
        rw [x4]
        generalize hB : inBy x = B at *
        have hs : s.toNat = a.toNat + B.length := by omega
        rw [hs, ← List.drop_drop, show (e - a).toNat = B.length + (e - s).toNat by omega, List.take_add, x4]
      · intro z hz
        simp at hz
        rcases hz with rfl | hz
        · exact x0
        · exact i4 z hz
/-- What AllBytes wrote is read as it was. -/
theorem allF_all : ∀ (A : List Ik) (P : List Int) (f : Nat), (∀ x ∈ A, inOk x = true) → A.length < f → allF (P ++ allB A) f P.length = (A, ((P ++ allB A).length : Int))
  | [], P, f, h, hf => by
    obtain ⟨f, rfl⟩ : ∃ k, f = k + 1 := ⟨f - 1, by simp at hf; omega⟩
    rw [allF]
    cases hx : inAt (P ++ allB []) (P.length : Int) with
    | none => simp [allB]
    | some y =>
      obtain ⟨x, s⟩ := y
      obtain ⟨x0, x1, x2, x3, x4⟩ := inAt_some hx
      have := (inOk_ne x0).1
      simp [allB] at x3
      omega
  | x :: A, P, f, h, hf => by
    obtain ⟨f, rfl⟩ : ∃ k, f = k + 1 := ⟨f - 1, by simp at hf; omega⟩
    have hc : P ++ allB (x :: A) = (P ++ inBy x) ++ allB A := by simp [allB]
    have hx : inAt (P ++ allB (x :: A)) (P.length : Int) = some (x, ((P ++ inBy x).length : Int)) := by
      rw [inAt_yes (h x (by simp)) (by omega) (by rw [hc]; simp; omega) (by rw [hc]; simp)]
      simp
    rw [allF, hx]
    simp only
    rw [hc, allF_all A (P ++ inBy x) f (fun y hy => h y (by simp [hy])) (by simp at hf; omega)]
/-- One number more, behind a cursor. -/
def rdN (L : List Int) (c : Int × Bool) : Int × (Int × Bool) :=
  match getFrom L.length c.1 (fun i => L.getD (c.1.toNat + i) 0) 5 0 with
  | none => (0, (c.1, false))
  | some (n, s) => if c.2 then (n, (s, true)) else (0, (c.1, false))
theorem rdN_bad (L : List Int) (a : Int) : rdN L (a, false) = (0, (a, false)) := by
  unfold rdN
  split <;> simp
theorem rdN_small {L : List Int} {a : Int} {v : Int} (h0 : 0 ≤ a) (h1 : a < L.length) (hv : L.getD a.toNat 0 = v) (v0 : 0 ≤ v) (v1 : v < 128) : rdN L (a, true) = (v, (a + 1, true)) := by
  unfold rdN
  rw [get_small h0 h1 (by simp only [Nat.add_zero]; rw [hv]; exact v0) (by simp only [Nat.add_zero]; rw [hv]; exact v1)]
  simp only [Nat.add_zero, if_pos, hv]
theorem rdN_out {L : List Int} {a : Int} {o : Bool} (h : a < 0) : rdN L (a, o) = (0, (a, false)) := by
  unfold rdN
  rw [get_out (.inl h)]
/-- The specification's way: numbers one behind the other. -/
def runN (L : List Int) (a : Int) : Ik × Bool :=
  let k := rdN L (a, true)
  let q := rdN L k.2
  if k.1 = 1 then
    let r := rdN L q.2
    let c := rdN L r.2
    let b := rdN L c.2
    let p := rdN L b.2
    let h := rdN L p.2
    (⟨k.1, q.1, r.1, c.1, b.1, p.1, h.1, false⟩, h.2.2)
  else if k.1 = 3 then
    let u := rdN L q.2
    (⟨k.1, q.1, 0, 0, 0, 0, 0, decide (u.1 = 1)⟩, u.2.2)
  else (⟨k.1, q.1, 0, 0, 0, 0, 0, false⟩, q.2.2)
theorem runN_of {L : List Int} {a : Int} {x : Ik} (h : inOk x = true) (h0 : 0 ≤ a) (h1 : a + (inBy x).length ≤ L.length) (h2 : (L.drop a.toNat).take (inBy x).length = inBy x) : runN L a = (x, true) := by
  have hb : inBy x = inN x ++ low4 (sumL (inN x)) := by unfold inBy; rw [if_pos h]
  have hl : (inBy x).length = (inN x).length + 4 := by rw [hb]; simp [low4]
  have hbd := inOk_N h
  have rd : ∀ j : Nat, j < (inN x).length → rdN L (a + j, true) = ((inN x).getD j 0, (a + (j + 1 : Nat), true)) := by
    intro j hj
    have e : (inBy x).getD j 0 = (inN x).getD j 0 := by rw [hb]; simp [List.getD, List.getElem?_append_left hj]
    have hd : L.getD (a + (j : Int)).toNat 0 = (inN x).getD j 0 := by
      rw [← e, ← h2, show (a + (j : Int)).toNat = a.toNat + j by omega]
      simp only [List.getD, List.getElem?_take, List.getElem?_drop]
      rw [if_pos (by omega)]
    have hm : (inN x).getD j 0 ∈ inN x := by
      simp only [List.getD, List.getElem?_eq_getElem hj, Option.getD_some]
      exact List.getElem_mem hj
    rw [rdN_small (by omega) (by omega) hd (hbd _ hm).1 (hbd _ hm).2]
    congr 2
    omega
  obtain ⟨k, q, r, c, b, p, hh, up⟩ := x
  unfold inOk at h
  unfold inN at rd
  unfold runN
  simp only at rd ⊢
  by_cases k1 : k = 1
  · simp only [k1, if_pos, Bool.and_eq_true, decide_eq_true_eq] at h rd
    have r0 := rd 0 (by simp); have r1 := rd 1 (by simp); have r2 := rd 2 (by simp); have r3 := rd 3 (by simp); have r4 := rd 4 (by simp); have r5 := rd 5 (by simp); have r6 := rd 6 (by simp)
    simp at r0 r1 r2 r3 r4 r5 r6
    simp only [r0, r1, r2, r3, r4, r5, r6, if_pos, k1]
    have := h.2.2.2
    simp at this
    rw [this]
  · simp only [k1, if_false] at h rd
    by_cases k3 : k = 3
    · simp only [k3, if_pos, Bool.and_eq_true, decide_eq_true_eq] at h rd
      have r0 := rd 0 (by simp); have r1 := rd 1 (by simp); have r2 := rd 2 (by simp)
      simp at r0 r1 r2
      obtain ⟨z1, z2, z3, z4⟩ := h.2.1
      have z5 := h.2.2
      simp at z5
      subst z1 z2 z3 z4 z5
      simp only [r0, r1, r2, k3]
      cases up <;> simp
    · simp only [k3, if_false] at h rd
      have r0 := rd 0 (by simp); have r1 := rd 1 (by simp)
      simp at r0 r1
      split at h
      · simp at h
        obtain ⟨z0, z1, z2, z3, z4, z5, z6⟩ := h
        subst z1 z2 z3 z4 z5 z6
        simp only [r0, r1, k1, k3, if_false]
      · cases h
theorem runN_out {L : List Int} {a : Int} (h : a < 0) : (runN L a).2 = false := by
  unfold runN
  simp only [rdN_out h]
  (repeat' split) <;> simp_all
/-- What the specification's InOf answers. -/
theorem run_inAt (L : List Int) (a : Int) : inAt L a = if (runN L a).2 = true ∧ inBy (runN L a).1 ≠ [] ∧ ((inBy (runN L a).1).length : Int) ≤ L.length - a ∧ (L.drop a.toNat).take (inBy (runN L a).1).length = inBy (runN L a).1 then some ((runN L a).1, a + (inBy (runN L a).1).length) else none := by
  split
  · next c =>
    obtain ⟨c1, c2, c3, c4⟩ := c
    have h0 : 0 ≤ a := by
      by_cases h : 0 ≤ a
      · exact h
      · rw [runN_out (by omega)] at c1; cases c1
    have hk : inOk (runN L a).1 = true := by
      by_cases k : inOk (runN L a).1 = true
      · exact k
      · exact absurd (by unfold inBy; rw [if_neg k]) c2
    exact inAt_yes hk h0 (by omega) c4
  · next c =>
    cases hx : inAt L a with
    | none => rfl
    | some y =>
      obtain ⟨x, s⟩ := y
      obtain ⟨x0, x1, x2, x3, x4⟩ := inAt_some hx
      have e := runN_of x0 x1 x3 x4
      rw [e] at c
      simp only at c
      have hn : inBy x ≠ [] := fun e => by have := inOk_ne x0; rw [e] at this; simp at this
      exact absurd ⟨trivial, hn, by omega, x4⟩ c
/-- From a place on; no fuel is lacking. -/
def allG (L : List Int) (a : Int) : List Ik × Int := allF L (L.length + 1) a
theorem allF_any (L : List Int) : ∀ (f g : Nat) (a : Int), 0 ≤ a → (L.length : Int) - a < f → (L.length : Int) - a < g → a ≤ L.length → allF L f a = allF L g a
  | 0, g, a, h0, h1, h2, h3 => by omega
  | f + 1, 0, a, h0, h1, h2, h3 => by omega
  | f + 1, g + 1, a, h0, h1, h2, h3 => by
    rw [allF, allF]
    cases hx : inAt L a with
    | none => rfl
    | some y =>
      obtain ⟨x, s⟩ := y
      obtain ⟨x0, x1, x2, x3, x4⟩ := inAt_some hx
      have := (inOk_ne x0).1
      simp only
      rw [allF_any L f g s (by omega) (by omega) (by omega) (by omega)]
theorem allG_none {L : List Int} {a : Int} (h : inAt L a = none) : allG L a = ([], a) := by
  rw [allG, allF, h]
theorem allG_some {L : List Int} {a s : Int} {x : Ik} (h : inAt L a = some (x, s)) : allG L a = (x :: (allG L s).1, (allG L s).2) ∧ a + 6 ≤ s ∧ 0 ≤ a ∧ s ≤ L.length := by
  obtain ⟨x0, x1, x2, x3, x4⟩ := inAt_some h
  have := (inOk_ne x0).1
  refine ⟨?_, by omega, by omega, by omega⟩
  rw [allG, allF, h]
  simp only
  rw [allF_any L L.length (L.length + 1) s (by omega) (by omega) (by omega) (by omega), allG]
theorem allG_back (L : List Int) : 0 ≤ (allG L 0).2 ∧ (allG L 0).2 ≤ L.length ∧ allB (allG L 0).1 = L.take (allG L 0).2.toNat ∧ ∀ x ∈ (allG L 0).1, inOk x = true := by
  have := allF_back L (L.length + 1) 0 (by omega) (by omega)
  simpa [allG] using this
theorem allB_long {A : List Ik} (h : ∀ x ∈ A, inOk x = true) : 6 * A.length ≤ (allB A).length := by
  induction A with
  | nil => simp
  | cons x A ih =>
    have h1 := (inOk_ne (h x (by simp))).1
    have h2 := ih fun y hy => h y (by simp [hy])
    simp only [allB, List.map_cons, List.flatten_cons, List.length_append, List.length_cons] at h2 ⊢
    omega
theorem allG_all {A : List Ik} (h : ∀ x ∈ A, inOk x = true) : allG (allB A) 0 = (A, ((allB A).length : Int)) := by
  have h1 := allB_long h
  have := allF_all A [] ((allB A).length + 1) h (by omega)
  simpa [allG] using this
theorem inAt_inB {x : Ik} (h : inOk x = true) : inAt (inBy x) 0 = some (x, ((inBy x).length : Int)) := by
  rw [inAt_yes h (by omega) (by omega) (by simp)]
  simp

end Go.Proofs.YtlnogijlfompoaaDoor
