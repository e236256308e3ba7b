/- A box of an In; texts of bytes. -/
import Derived.Test.YtlnogijlfompoaaDoorRows
import Derived.WalkKit
import Derived.ProofKit
import Derived.OpenShut
import Derived.ShutString
import Derived.ChangeOld
import Derived.Below
import Derived.Deep.QuietTactic
import Derived.BigQuiet
import Derived.WalkSmall
import Derived.Laws.OwnMore
import Derived.WalkSpells
import Derived.WalkLawsBesides
import Derived.Lib.BufferRead
import Derived.Laws.IdiomStrings
import Derived.Test.YtlnogijlfompoaaDoorInMath2
import Derived.Test.YtlnogijlfompoaaDoorFlat
import Derived.Test.YtlnogijlfompoaaDoorBOwn
namespace Go.Proofs.YtlnogijlfompoaaDoor
open Go.ChangeShapes Go.WideShapes Go.ChangeAt Go.RowKit
open Go.ChangeMaps (open_string shut_string)
set_option linter.unusedVariables false
set_option maxRecDepth 100000

/-- The text of a row of bytes. -/
def txt (L : List Int) : ByteArray := ⟨(L.map fun x => UInt8.ofNat x.toNat).toArray⟩
theorem conv_view {w : World} {ad : Option Addr} {cap : Nat} {L : List Int} (hv : View w ad L.length (fun i => L.getD i 0)) (hb : ∀ x ∈ L, 0 ≤ x ∧ x ≤ 255) :
    (convert 22 9 (.slice ad L.length cap)).run Tryd.prog w = .ok (.string (txt L)) w := by
  cases ad with
  | none =>
    have hL : L = [] := by
      cases L with
      | nil => rfl
      | cons a r => obtain ⟨b, off, e, _⟩ := hv (by simp); cases e
    subst hL
    exact Lib.run_convert_nil_bytes w 22 9 5 cap Tryd.underlying22 Tryd.underlying5 Tryd.underlying9
  | some a =>
    have h := run_convert_bytes_back (P := Tryd.prog) w 22 9 5 a cap (L.map fun x => UInt8.ofNat x.toNat) Tryd.underlying22 Tryd.underlying5 Tryd.underlying9 (fun j hj => by
      have hj' : j < L.length := by simpa using hj
      obtain ⟨b, off, e, hc⟩ := hv (by omega)
      cases e
      have hcj : w.cell? ⟨b, off + j, none⟩ = some (.int .u8 (L.getD j 0)) := hc j hj'
      have hbj := hb L[j] (List.getElem_mem hj')
      have e1 : L.getD j 0 = L[j] := by simp [List.getD, List.getElem?_eq_getElem hj']
      rw [e1] at hcj
      have e2 : (((L.map fun x => UInt8.ofNat x.toNat)[j]'hj).toNat : Int) = L[j] := by simp; omega
      rw [e2]
      by_cases hj0 : j = 0
      · subst hj0; simpa [Addr.add] using hcj
      · simpa [Addr.add, hj0] using hcj)
    rw [List.length_map] at h
    exact h
/-- What string(b) answers in every later world. -/
theorem conv_later {w w' : World} {ad : Option Addr} {cap : Nat} {L : List Int} {B : Nat} (hv : View w ad L.length (fun i => L.getD i 0)) (hb : ∀ x ∈ L, 0 ≤ x ∧ x ≤ 255) (k : ∀ a, ad = some a → a.block < B) (h : Below B w w') :
    (convert 22 9 (.slice ad L.length cap)).run Tryd.prog w' = .ok (.string (txt L)) w' :=
  conv_view (hv.carry (fun a e _ => h.block _ (k a e))) hb

/-- A box of an In that may be written. -/
structure IBox (w : World) (q : Nat) (x : Ik) : Prop where
  at_ : InAt w q x
  fr : ∀ i, w.frozen? ⟨q, i, none⟩ = false
theorem IBox.keep {w w' : World} {q : Nat} {x : Ik} (h : IBox w q x) (k : w'.heap[q]? = w.heap[q]?) : IBox w' q x :=
  ⟨h.at_.keep k, fun i => (World.frozen?_of_block (a := ⟨q, i, none⟩) k).trans (h.fr i)⟩
theorem IBox.lt {w : World} {q : Nat} {x : Ik} (h : IBox w q x) : q < w.heap.size := h.at_.lt
theorem IBox.below {w w' : World} {q n : Nat} {x : Ik} (h : IBox w q x) (k : Below n w w') (hq : q < n) : IBox w' q x := h.keep (k.block q hq)
theorem IBox.other {w : World} {q q' i : Nat} {x : Ik} {v : Value} (h : IBox w q x) (hne : q ≠ q') : IBox (w.setCell ⟨q', i, none⟩ v) q x := h.keep (Below.heap_setCell _ _ _ _ hne)
theorem IBox.set0 {w : World} {q : Nat} {x : Ik} (z : Int) (h : IBox w q x) : IBox (w.setCell ⟨q, 0, none⟩ (.int .i64 z)) q { x with k := z } :=
  ⟨⟨pset_same h.at_.c0, (pset_else (by decide)).trans h.at_.c1, (pset_else (by decide)).trans h.at_.c2, (pset_else (by decide)).trans h.at_.c3, (pset_else (by decide)).trans h.at_.c4, (pset_else (by decide)).trans h.at_.c5, (pset_else (by decide)).trans h.at_.c6, (pset_else (by decide)).trans h.at_.c7⟩, fun i => by rw [World.frozen?_setCell]; exact h.fr i⟩
theorem IBox.set1 {w : World} {q : Nat} {x : Ik} (z : Int) (h : IBox w q x) : IBox (w.setCell ⟨q, 1, none⟩ (.int .i64 z)) q { x with q := z } :=
  ⟨⟨(pset_else (by decide)).trans h.at_.c0, pset_same h.at_.c1, (pset_else (by decide)).trans h.at_.c2, (pset_else (by decide)).trans h.at_.c3, (pset_else (by decide)).trans h.at_.c4, (pset_else (by decide)).trans h.at_.c5, (pset_else (by decide)).trans h.at_.c6, (pset_else (by decide)).trans h.at_.c7⟩, fun i => by rw [World.frozen?_setCell]; exact h.fr i⟩
theorem IBox.set2 {w : World} {q : Nat} {x : Ik} (z : Int) (h : IBox w q x) : IBox (w.setCell ⟨q, 2, none⟩ (.int .i64 z)) q { x with r := z } :=
  ⟨⟨(pset_else (by decide)).trans h.at_.c0, (pset_else (by decide)).trans h.at_.c1, pset_same h.at_.c2, (pset_else (by decide)).trans h.at_.c3, (pset_else (by decide)).trans h.at_.c4, (pset_else (by decide)).trans h.at_.c5, (pset_else (by decide)).trans h.at_.c6, (pset_else (by decide)).trans h.at_.c7⟩, fun i => by rw [World.frozen?_setCell]; exact h.fr i⟩
theorem IBox.set3 {w : World} {q : Nat} {x : Ik} (z : Int) (h : IBox w q x) : IBox (w.setCell ⟨q, 3, none⟩ (.int .i64 z)) q { x with c := z } :=
  ⟨⟨(pset_else (by decide)).trans h.at_.c0, (pset_else (by decide)).trans h.at_.c1, (pset_else (by decide)).trans h.at_.c2, pset_same h.at_.c3, (pset_else (by decide)).trans h.at_.c4, (pset_else (by decide)).trans h.at_.c5, (pset_else (by decide)).trans h.at_.c6, (pset_else (by decide)).trans h.at_.c7⟩, fun i => by rw [World.frozen?_setCell]; exact h.fr i⟩
theorem IBox.set4 {w : World} {q : Nat} {x : Ik} (z : Int) (h : IBox w q x) : IBox (w.setCell ⟨q, 4, none⟩ (.int .i64 z)) q { x with b := z } :=
  ⟨⟨(pset_else (by decide)).trans h.at_.c0, (pset_else (by decide)).trans h.at_.c1, (pset_else (by decide)).trans h.at_.c2, (pset_else (by decide)).trans h.at_.c3, pset_same h.at_.c4, (pset_else (by decide)).trans h.at_.c5, (pset_else (by decide)).trans h.at_.c6, (pset_else (by decide)).trans h.at_.c7⟩, fun i => by rw [World.frozen?_setCell]; exact h.fr i⟩
theorem IBox.set5 {w : World} {q : Nat} {x : Ik} (z : Int) (h : IBox w q x) : IBox (w.setCell ⟨q, 5, none⟩ (.int .i64 z)) q { x with p := z } :=
  ⟨⟨(pset_else (by decide)).trans h.at_.c0, (pset_else (by decide)).trans h.at_.c1, (pset_else (by decide)).trans h.at_.c2, (pset_else (by decide)).trans h.at_.c3, (pset_else (by decide)).trans h.at_.c4, pset_same h.at_.c5, (pset_else (by decide)).trans h.at_.c6, (pset_else (by decide)).trans h.at_.c7⟩, fun i => by rw [World.frozen?_setCell]; exact h.fr i⟩
theorem IBox.set6 {w : World} {q : Nat} {x : Ik} (z : Int) (h : IBox w q x) : IBox (w.setCell ⟨q, 6, none⟩ (.int .i64 z)) q { x with h := z } :=
  ⟨⟨(pset_else (by decide)).trans h.at_.c0, (pset_else (by decide)).trans h.at_.c1, (pset_else (by decide)).trans h.at_.c2, (pset_else (by decide)).trans h.at_.c3, (pset_else (by decide)).trans h.at_.c4, (pset_else (by decide)).trans h.at_.c5, pset_same h.at_.c6, (pset_else (by decide)).trans h.at_.c7⟩, fun i => by rw [World.frozen?_setCell]; exact h.fr i⟩
theorem IBox.set7 {w : World} {q : Nat} {x : Ik} (z : Bool) (h : IBox w q x) : IBox (w.setCell ⟨q, 7, none⟩ (.bool z)) q { x with up := z } :=
  ⟨⟨(pset_else (by decide)).trans h.at_.c0, (pset_else (by decide)).trans h.at_.c1, (pset_else (by decide)).trans h.at_.c2, (pset_else (by decide)).trans h.at_.c3, (pset_else (by decide)).trans h.at_.c4, (pset_else (by decide)).trans h.at_.c5, (pset_else (by decide)).trans h.at_.c6, pset_same h.at_.c7⟩, fun i => by rw [World.frozen?_setCell]; exact h.fr i⟩
theorem IBox.putAll {w : World} {q : Nat} {x : Ik} (h : IBox w q x) (y : Ik) : IBox ((((((((w.setCell ⟨q, 0, none⟩ (.int .i64 y.k)).setCell ⟨q, 1, none⟩ (.int .i64 y.q)).setCell ⟨q, 2, none⟩ (.int .i64 y.r)).setCell ⟨q, 3, none⟩ (.int .i64 y.c)).setCell ⟨q, 4, none⟩ (.int .i64 y.b)).setCell ⟨q, 5, none⟩ (.int .i64 y.p)).setCell ⟨q, 6, none⟩ (.int .i64 y.h)).setCell ⟨q, 7, none⟩ (.bool y.up)) q y :=
  ((((((((h.set0 y.k).set1 y.q).set2 y.r).set3 y.c).set4 y.b).set5 y.p).set6 y.h).set7 y.up)
theorem below_all {a w : World} {n q : Nat} (h : Below n a w) (hq : n ≤ q) (y : Ik) : Below n a ((((((((w.setCell ⟨q, 0, none⟩ (.int .i64 y.k)).setCell ⟨q, 1, none⟩ (.int .i64 y.q)).setCell ⟨q, 2, none⟩ (.int .i64 y.r)).setCell ⟨q, 3, none⟩ (.int .i64 y.c)).setCell ⟨q, 4, none⟩ (.int .i64 y.b)).setCell ⟨q, 5, none⟩ (.int .i64 y.p)).setCell ⟨q, 6, none⟩ (.int .i64 y.h)).setCell ⟨q, 7, none⟩ (.bool y.up)) :=
  (((((((h.setCell hq _).setCell hq _).setCell hq _).setCell hq _).setCell hq _).setCell hq _).setCell hq _).setCell hq _
theorem rdN_bd {L : List Int} {a : Int} {o : Bool} (h : -9223372036854775808 ≤ a ∧ a ≤ 9223372036854775807) (hl : L.length ≤ 1048576) : -9223372036854775808 ≤ (rdN L (a, o)).2.1 ∧ (rdN L (a, o)).2.1 ≤ 9223372036854775807 := by
  unfold rdN
  split
  · exact h
  · next n s hs =>
    have := numAtL_some hs
    split
    · simp only; omega
    · exact h
theorem u8_inj {x y : Int} (hx : 0 ≤ x ∧ x ≤ 255) (hy : 0 ≤ y ∧ y ≤ 255) (h : UInt8.ofNat x.toNat = UInt8.ofNat y.toNat) : x = y := by
  have := congrArg UInt8.toNat h
  simp only [UInt8.toNat_ofNat'] at this
  omega
theorem txt_toList (A : List Int) : (txt A).toList = A.map fun x => UInt8.ofNat x.toNat := by rw [ByteArray.toList_eq]; simp [txt]
theorem txt_inj {A B : List Int} (hA : ∀ x ∈ A, 0 ≤ x ∧ x ≤ 255) (hB : ∀ x ∈ B, 0 ≤ x ∧ x ≤ 255) (h : (A.map fun x => UInt8.ofNat x.toNat) = B.map fun x => UInt8.ofNat x.toNat) : A = B := by
  induction A generalizing B with
  | nil => cases B with
    | nil => rfl
    | cons y B => simp at h
  | cons x A ih => cases B with
    | nil => simp at h
    | cons y B =>
      simp only [List.map_cons, List.cons.injEq] at h
      rw [u8_inj (hA x (by simp)) (hB y (by simp)) h.1, ih (fun z hz => hA z (by simp [hz])) (fun z hz => hB z (by simp [hz])) h.2]
theorem txt_eq {A B : List Int} (hA : ∀ x ∈ A, 0 ≤ x ∧ x ≤ 255) (hB : ∀ x ∈ B, 0 ≤ x ∧ x ≤ 255) : ((txt A).toList == (txt B).toList) = decide (A = B) := by
  rw [txt_toList, txt_toList]
  by_cases h : A = B
  · subst h; simp
  · rw [decide_eq_false h]
    simp only [beq_eq_false_iff_ne, ne_eq]
    exact fun e => h (txt_inj hA hB e)
theorem low4_bd (s : Int) : ∀ x ∈ low4 s, 0 ≤ x ∧ x ≤ 255 := by
  intro x hx
  simp only [low4, List.mem_cons, List.not_mem_nil, or_false] at hx
  omega
theorem inBy_bd (x : Ik) : ∀ y ∈ inBy x, 0 ≤ y ∧ y ≤ 255 := by
  intro y hy
  unfold inBy at hy
  split at hy
  · next h =>
    rcases List.mem_append.1 hy with h1 | h1
    · have := inOk_N h y h1; omega
    · exact low4_bd _ y h1
  · simp at hy
/-- What both InOf hand back. -/
def inOfV : Option (Ik × Int) → Value
  | none => .tuple #[.agg #[.int .i64 0, .int .i64 0, .int .i64 0, .int .i64 0, .int .i64 0, .int .i64 0, .int .i64 0, .bool false], .int .i64 0, .bool false]
  | some (x, s) => .tuple #[.agg #[.int .i64 x.k, .int .i64 x.q, .int .i64 x.r, .int .i64 x.c, .int .i64 x.b, .int .i64 x.p, .int .i64 x.h, .bool x.up], .int .i64 s, .bool true]
theorem cut_view {w : World} {b off : Nat} {L : List Int} (hv : View w (some ⟨b, off, none⟩) L.length (fun i => L.getD i 0)) (p q : Nat) (h : p + q ≤ L.length) :
    View w (some ⟨b, off + p, none⟩) ((L.drop p).take q).length (fun i => ((L.drop p).take q).getD i 0) := by
  intro hp
  have hq : ((L.drop p).take q).length = q := by simp; omega
  rw [hq] at hp ⊢
  obtain ⟨b', off', e, hc⟩ := hv (by omega)
  cases e
  refine ⟨b, off + p, rfl, fun i hi => ?_⟩
  have := hc (p + i) (by omega)
  rw [Nat.add_assoc, this]
  congr 2
  simp [List.getD, hi]
theorem cut_bd {L : List Int} (hL : ∀ x ∈ L, 0 ≤ x ∧ x ≤ 255) (p q : Nat) : ∀ x ∈ (L.drop p).take q, 0 ≤ x ∧ x ≤ 255 :=
  fun x hx => hL x (List.mem_of_mem_drop (List.mem_of_mem_take hx))

end Go.Proofs.YtlnogijlfompoaaDoor
