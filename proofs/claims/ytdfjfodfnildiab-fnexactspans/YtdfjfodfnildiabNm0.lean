/- What is NetOk, in plain lists. -/
import Derived.Test.YtdfjfodfnildiabRows
import Derived.WalkKit
import Derived.ProofKit
import Derived.OpenShut
import Derived.ShutString
import Derived.ChangeOld
import Derived.Below
import Derived.Deep.QuietTactic
import Derived.BigQuiet
import Derived.WalkSmall
import Derived.Laws.OwnMore
import Derived.WalkSpells
import Derived.WalkLawsBesides
import Derived.Test.YtdfjfodfnildiabNb0
import Derived.Test.YtdfjfodfnildiabLk1
namespace Go.Proofs.Ytdfjfodfnildiab
open Go.ChangeShapes Go.WideShapes Go.ChangeAt Go.RowKit
open Go.ChangeMaps (open_string shut_string)
set_option linter.unusedVariables false
set_option maxRecDepth 100000

/-- A port of a net. -/
def pt (B : List Bg) (i x : Nat) : Pt := (B.getD i Bg.nil).L.getD x Pt.nil
def otherL : List Lk → Int → Int → Option (Int × Int)
  | [], _, _ => none
  | l :: K, a, p => if l.a = a ∧ l.p = p then some (l.b, l.q) else if l.b = a ∧ l.q = p then some (l.a, l.p) else otherL K a p
def onceL : List Lk → Int → Int → Int
  | [], _, _ => 0
  | l :: K, a, p => (if l.a = a ∧ l.p = p then 1 else 0) + (if l.b = a ∧ l.q = p then 1 else 0) + onceL K a p
theorem once_nonneg (K : List Lk) (a p : Int) : 0 ≤ onceL K a p := by
  induction K with
  | nil => simp [onceL]
  | cons l K ih => unfold onceL; split <;> split <;> omega
theorem once_most (K : List Lk) (a p : Int) : onceL K a p ≤ 2 * (K.length : Int) := by
  induction K with
  | nil => simp [onceL]
  | cons l K ih => unfold onceL; simp only [List.length_cons]; split <;> split <;> omega
theorem once_app (K M : List Lk) (a p : Int) : onceL (K ++ M) a p = onceL K a p + onceL M a p := by
  induction K with
  | nil => simp [onceL]
  | cons l K ih => simp only [List.cons_append, onceL, ih]; omega
theorem take_one {X : Type} (K : List X) (d : X) {j : Nat} (h : j < K.length) : K.take (j + 1) = K.take j ++ [K.getD j d] := by
  rw [List.take_add_one, List.getElem?_eq_getElem h]
  simp [List.getD, h]
theorem once_take (K : List Lk) (a p : Int) {j : Nat} (h : j < K.length) : onceL (K.take (j + 1)) a p = onceL (K.take j) a p + ((if (K.getD j Lk.nil).a = a ∧ (K.getD j Lk.nil).p = p then 1 else 0) + (if (K.getD j Lk.nil).b = a ∧ (K.getD j Lk.nil).q = p then 1 else 0)) := by
  rw [take_one K Lk.nil h, once_app]
  simp [onceL]
theorem once_in {K : List Lk} {l : Lk} (h : l ∈ K) : 1 ≤ onceL K l.a l.p ∧ 1 ≤ onceL K l.b l.q := by
  induction K with
  | nil => cases h
  | cons x K ih =>
    unfold onceL
    rcases List.mem_cons.1 h with rfl | h
    · have h1 := once_nonneg K l.a l.p
      have h2 := once_nonneg K l.b l.q
      constructor
      · rw [if_pos ⟨rfl, rfl⟩]; split <;> omega
      · rw [if_pos (show l.b = l.b ∧ l.q = l.q from ⟨rfl, rfl⟩)]; split <;> omega
    · obtain ⟨h1, h2⟩ := ih h
      constructor
      · split <;> split <;> omega
      · split <;> split <;> omega
/-- There is such a port. -/
def PortP (B : List Bg) (a p : Int) : Prop := (0 ≤ a ∧ a < (B.length : Int)) ∧ (0 ≤ p ∧ p < ((B.getD a.toNat Bg.nil).L.length : Int))
/-- There is such a port, and it is up. -/
def EndP (B : List Bg) (a p : Int) : Prop := (0 ≤ a ∧ a < (B.length : Int)) ∧ (0 ≤ p ∧ p < ((B.getD a.toNat Bg.nil).L.length : Int)) ∧ (pt B a.toNat p.toNat).up = true
/-- What is NetOk. -/
structure NetP (B : List Bg) (K : List Lk) : Prop where
  many : 1 ≤ B.length ∧ B.length ≤ 5
  few : K.length ≤ 6
  ok : ∀ i, i < B.length → bOk (B.getD i Bg.nil).id (B.getD i Bg.nil).L = true
  inj : ∀ i j, i < B.length → j < B.length → (B.getD i Bg.nil).id = (B.getD j Bg.nil).id → i = j
  once : ∀ i x, i < B.length → x < (B.getD i Bg.nil).L.length → onceL K i x = if (pt B i x).up then 1 else 0
  link : ∀ l, l ∈ K → l.a ≠ l.b ∧ EndP B l.a l.p ∧ EndP B l.b l.q
/-- The numbers of the first n are unlike. -/
def Unlike (B : List Bg) (n : Nat) : Prop := ∀ i k, i < n → k < i → (B.getD k Bg.nil).id ≠ (B.getD i Bg.nil).id
theorem unlike_inj {B : List Bg} (h : Unlike B B.length) : ∀ i j, i < B.length → j < B.length → (B.getD i Bg.nil).id = (B.getD j Bg.nil).id → i = j := by
  intro i j hi hj e
  rcases Nat.lt_trichotomy i j with q | q | q
  · exact absurd e (h j i hj q)
  · exact q
  · exact absurd e.symm (h i j hi q)
/-- The program asks of the links' ends only that they are; the ports tell the rest. -/
theorem end_up {B : List Bg} {K : List Lk} (ho : ∀ i x, i < B.length → x < (B.getD i Bg.nil).L.length → onceL K i x = if (pt B i x).up then 1 else 0) {a p : Int} (h : PortP B a p) (h1 : 1 ≤ onceL K a p) : EndP B a p := by
  obtain ⟨⟨a1, a2⟩, p1, p2⟩ := h
  refine ⟨⟨a1, a2⟩, ⟨p1, p2⟩, ?_⟩
  have := ho a.toNat p.toNat (by omega) (by omega)
  rw [show ((a.toNat : Nat) : Int) = a by omega, show ((p.toNat : Nat) : Int) = p by omega] at this
  cases hu : (pt B a.toNat p.toNat).up
  · rw [hu] at this
    have : onceL K a p = 0 := by simpa using this
    omega
  · rfl
theorem EndP.port {B : List Bg} {a p : Int} (h : EndP B a p) : PortP B a p := ⟨h.1, h.2.1⟩
/-- It answers whether Q holds. -/
def YN (e : Ending) (Q : Prop) : Prop := ∃ R : Bool, e = .returned (.bool R) ∧ (R = true ↔ Q)
theorem YN.no {Q : Prop} (h : ¬ Q) : YN (.returned (.bool false)) Q := ⟨false, rfl, ⟨fun h => (by cases h), fun q => absurd q h⟩⟩
theorem YN.yes {Q : Prop} (h : Q) : YN (.returned (.bool true)) Q := ⟨true, rfl, ⟨fun _ => h, fun _ => rfl⟩⟩
theorem YN.is {Q : Prop} {R : Bool} (h : R = true ↔ Q) : YN (.returned (.bool R)) Q := ⟨R, rfl, h⟩

end Go.Proofs.Ytdfjfodfnildiab
