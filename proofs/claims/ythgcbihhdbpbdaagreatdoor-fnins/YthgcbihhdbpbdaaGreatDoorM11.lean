/- Rows of bytes that a call owns. A box of an In; texts of bytes. Both AllBytes, walked. spec.AllBytes, walked: its row is one. impl.numbersAt, walked. -/
import Derived.Test.YthgcbihhdbpbdaaGreatDoorRows
import Derived.WalkKit
import Derived.ProofKit
import Derived.OpenShut
import Derived.ShutString
import Derived.ChangeOld
import Derived.Below
import Derived.Deep.QuietTactic
import Derived.BigQuiet
import Derived.WalkSmall
import Derived.Laws.OwnMore
import Derived.WalkSpells
import Derived.WalkLawsBesides
import Derived.Deep.Cut
import Derived.Test.YthgcbihhdbpbdaaGreatDoorM10
import Derived.Test.YthgcbihhdbpbdaaGreatDoorM2
import Derived.Lib.BufferRead
import Derived.Laws.IdiomStrings
import Derived.Test.YthgcbihhdbpbdaaGreatDoorM6
import Derived.Test.YthgcbihhdbpbdaaGreatDoorM5
import Derived.Maps.AppendAt
import Derived.Test.YthgcbihhdbpbdaaGreatDoorKGetI9
namespace Go.Proofs.YthgcbihhdbpbdaaGreatDoor
open Go.ChangeShapes Go.WideShapes Go.ChangeAt Go.RowKit
open Go.ChangeMaps (open_string shut_string)
set_option linter.unusedVariables false
set_option maxRecDepth 100000

def bEnc (x : Int) : List Value := [.int .u8 x]
theorem bEnc_len (x : Int) : (bEnc x).length = 1 := rfl
theorem bEnc_ones (L : List Int) : ∀ u ∈ fcells bEnc L, u.oneCell' = true := by
  induction L with
  | nil => intro u h; cases h
  | cons x L ih =>
    intro u h
    simp only [fcells, bEnc, List.mem_append, List.mem_cons, List.not_mem_nil, or_false] at h
    rcases h with rfl | h
    · rfl
    · exact ih u h
theorem bCells (L : List Int) : fcells bEnc L = L.map (Value.int .u8) := by
  induction L with
  | nil => rfl
  | cons x L ih => simp only [fcells, bEnc, List.map_cons, ih, List.cons_append, List.nil_append]
theorem bInfo : (Tryz.prog.info? 5).map (fun i => (i.zero, i.size, i.bytes)) = some (some (.int .u8 0), 1, 1) := by kernel_rfl
/-- A row of bytes that a call owns, in both words. -/
theorem bOf {base : Nat} {w : World} {v : Value} {L : List Int} (h : w.ownsRow base 5 1 v L.length (L.map (Value.int .u8))) : FOwn bEnc 1 5 base w v L := by
  unfold FOwn
  rw [bCells]
  exact h
theorem bTo_ {base : Nat} {w : World} {v : Value} {L : List Int} (h : FOwn bEnc 1 5 base w v L) : w.ownsRow base 5 1 v L.length (L.map (Value.int .u8)) := by
  unfold FOwn at h
  rw [bCells] at h
  exact h
theorem bV {w : World} {ad : Option Addr} {L : List Int} (h : FView bEnc w ad L) : View w ad L.length (fun i => L.getD i 0) := fun hp => by
  obtain ⟨b, off, e, hc⟩ := h hp
  refine ⟨b, off, e, fun i hi => hc i _ ?_⟩
  rw [bCells, List.getElem?_map, List.getElem?_eq_getElem hi]
  simp [List.getD, List.getElem?_eq_getElem hi]
theorem bVof {w : World} {ad : Option Addr} {L : List Int} (h : View w ad L.length (fun i => L.getD i 0)) : FView bEnc w ad L := fun hp => by
  obtain ⟨b, off, e, hc⟩ := h hp
  refine ⟨b, off, e, fun j v hv => ?_⟩
  rw [bCells, List.getElem?_map] at hv
  have hj : j < L.length := by
    rcases Nat.lt_or_ge j L.length with q | q
    · exact q
    · rw [List.getElem?_eq_none q] at hv; simp at hv
  rw [List.getElem?_eq_getElem hj] at hv
  simp only [Option.map_some, Option.some.injEq] at hv
  subst hv
  have e1 : L.getD j 0 = L[j] := by simp [List.getD, List.getElem?_eq_getElem hj]
  have e2 : w.cell? ⟨b, off + j, none⟩ = some (.int .u8 (L.getD j 0)) := hc j hj
  rw [e1] at e2
  exact e2
/-- The marks that the law lays upon bytes, from s on. -/
def bMk (s : Int) (i : Nat) : Int := (s + i) % 256
theorem bMk_len (s : Int) (n : Nat) : ((List.range n).map (bMk s)).length = n := by simp
theorem inBIo (x : Ik) (w : World) : Calls Tryz.prog 7 #[.agg #[.int .i64 x.k, .int .i64 x.q, .int .i64 x.r, .int .i64 x.c, .int .i64 x.b, .int .i64 x.p, .int .i64 x.h, .bool x.up]] w fun e w' => ∃ ad cap, e = .returned (.slice ad (inBy x).length cap) ∧ FOwn bEnc 1 5 w.heap.size w' (.slice ad (inBy x).length cap) (inBy x) ∧ Below w.heap.size w w' := by
  refine (inBI x w).mono ?_
  rintro e w' ⟨v, rfl, o, k⟩
  have o := bOf o
  obtain ⟨ad, cap, rfl⟩ := o.open_
  exact ⟨ad, cap, rfl, o, k⟩
theorem inBSo (x : Ik) (w : World) : Calls Tryz.prog 18 #[.agg #[.int .i64 x.k, .int .i64 x.q, .int .i64 x.r, .int .i64 x.c, .int .i64 x.b, .int .i64 x.p, .int .i64 x.h, .bool x.up]] w fun e w' => ∃ ad cap, e = .returned (.slice ad (inBy x).length cap) ∧ FOwn bEnc 1 5 w.heap.size w' (.slice ad (inBy x).length cap) (inBy x) ∧ Below w.heap.size w w' := by
  refine (inBS x w).mono ?_
  rintro e w' ⟨v, rfl, o, k, _⟩
  have o := bOf o
  obtain ⟨ad, cap, rfl⟩ := o.open_
  exact ⟨ad, cap, rfl, o, k⟩
theorem inBSn (x : Ik) (w : World) : Calls Tryz.prog 18 #[.agg #[.int .i64 x.k, .int .i64 x.q, .int .i64 x.r, .int .i64 x.c, .int .i64 x.b, .int .i64 x.p, .int .i64 x.h, .bool x.up]] w fun e w' => ∃ ad cap, e = .returned (.slice ad (inBy x).length cap) ∧ FOwn bEnc 1 5 w.heap.size w' (.slice ad (inBy x).length cap) (inBy x) ∧ Below w.heap.size w w' ∧ ad ≠ none := by
  refine (inBS x w).mono ?_
  rintro e w' ⟨v, rfl, o, k, hsm⟩
  have o := bOf o
  obtain ⟨ad, cap, rfl⟩ := o.open_
  exact ⟨ad, cap, rfl, o, k, fun e => by rw [e] at hsm; exact hsm rfl⟩
theorem inBy_len (x : Ik) : (inBy x).length ≤ 11 := by
  by_cases h : inOk x = true
  · exact (inOk_ne h).2
  · unfold inBy; rw [if_neg h]; simp


end Go.Proofs.YthgcbihhdbpbdaaGreatDoor
namespace Go.Proofs.YthgcbihhdbpbdaaGreatDoor
open Go.ChangeShapes Go.WideShapes Go.ChangeAt Go.RowKit
open Go.ChangeMaps (open_string shut_string)
set_option linter.unusedVariables false
set_option maxRecDepth 100000

/-- The text of a row of bytes. -/
def txt (L : List Int) : ByteArray := ⟨(L.map fun x => UInt8.ofNat x.toNat).toArray⟩
theorem conv_view {w : World} {ad : Option Addr} {cap : Nat} {L : List Int} (hv : View w ad L.length (fun i => L.getD i 0)) (hb : ∀ x ∈ L, 0 ≤ x ∧ x ≤ 255) :
    (convert 22 9 (.slice ad L.length cap)).run Tryz.prog w = .ok (.string (txt L)) w := by
  cases ad with
  | none =>
    have hL : L = [] := by
      cases L with
      | nil => rfl
      | cons a r => obtain ⟨b, off, e, _⟩ := hv (by simp); cases e
    subst hL
    exact Lib.run_convert_nil_bytes w 22 9 5 cap Tryz.underlying22 Tryz.underlying5 Tryz.underlying9
  | some a =>
    have h := run_convert_bytes_back (P := Tryz.prog) w 22 9 5 a cap (L.map fun x => UInt8.ofNat x.toNat) Tryz.underlying22 Tryz.underlying5 Tryz.underlying9 (fun j hj => by
      have hj' : j < L.length := by simpa using hj
      obtain ⟨b, off, e, hc⟩ := hv (by omega)
      cases e
      have hcj : w.cell? ⟨b, off + j, none⟩ = some (.int .u8 (L.getD j 0)) := hc j hj'
      have hbj := hb L[j] (List.getElem_mem hj')
      have e1 : L.getD j 0 = L[j] := by simp [List.getD, List.getElem?_eq_getElem hj']
      rw [e1] at hcj
      have e2 : (((L.map fun x => UInt8.ofNat x.toNat)[j]'hj).toNat : Int) = L[j] := by simp; omega
      rw [e2]
      by_cases hj0 : j = 0
      · subst hj0; simpa [Addr.add] using hcj
      · simpa [Addr.add, hj0] using hcj)
    rw [List.length_map] at h
    exact h
/-- What string(b) answers in every later world. -/
theorem conv_later {w w' : World} {ad : Option Addr} {cap : Nat} {L : List Int} {B : Nat} (hv : View w ad L.length (fun i => L.getD i 0)) (hb : ∀ x ∈ L, 0 ≤ x ∧ x ≤ 255) (k : ∀ a, ad = some a → a.block < B) (h : Below B w w') :
    (convert 22 9 (.slice ad L.length cap)).run Tryz.prog w' = .ok (.string (txt L)) w' :=
  conv_view (hv.carry (fun a e _ => h.block _ (k a e))) hb

/-- A box of an In that may be written. -/
structure JBox (w : World) (q : Nat) (x : Ik) : Prop where
  at_ : InAt w q x
  fr : ∀ i, w.frozen? ⟨q, i, none⟩ = false
theorem JBox.keep {w w' : World} {q : Nat} {x : Ik} (h : JBox w q x) (k : w'.heap[q]? = w.heap[q]?) : JBox w' q x :=
  ⟨h.at_.keep k, fun i => (World.frozen?_of_block (a := ⟨q, i, none⟩) k).trans (h.fr i)⟩
theorem JBox.lt {w : World} {q : Nat} {x : Ik} (h : JBox w q x) : q < w.heap.size := h.at_.lt
theorem JBox.below {w w' : World} {q n : Nat} {x : Ik} (h : JBox w q x) (k : Below n w w') (hq : q < n) : JBox w' q x := h.keep (k.block q hq)
theorem JBox.other {w : World} {q q' i : Nat} {x : Ik} {v : Value} (h : JBox w q x) (hne : q ≠ q') : JBox (w.setCell ⟨q', i, none⟩ v) q x := h.keep (Below.heap_setCell _ _ _ _ hne)
theorem JBox.set0 {w : World} {q : Nat} {x : Ik} (z : Int) (h : JBox w q x) : JBox (w.setCell ⟨q, 0, none⟩ (.int .i64 z)) q { x with k := z } :=
  ⟨⟨pset_same h.at_.c0, (pset_else (by decide)).trans h.at_.c1, (pset_else (by decide)).trans h.at_.c2, (pset_else (by decide)).trans h.at_.c3, (pset_else (by decide)).trans h.at_.c4, (pset_else (by decide)).trans h.at_.c5, (pset_else (by decide)).trans h.at_.c6, (pset_else (by decide)).trans h.at_.c7⟩, fun i => by rw [World.frozen?_setCell]; exact h.fr i⟩
theorem JBox.set1 {w : World} {q : Nat} {x : Ik} (z : Int) (h : JBox w q x) : JBox (w.setCell ⟨q, 1, none⟩ (.int .i64 z)) q { x with q := z } :=
  ⟨⟨(pset_else (by decide)).trans h.at_.c0, pset_same h.at_.c1, (pset_else (by decide)).trans h.at_.c2, (pset_else (by decide)).trans h.at_.c3, (pset_else (by decide)).trans h.at_.c4, (pset_else (by decide)).trans h.at_.c5, (pset_else (by decide)).trans h.at_.c6, (pset_else (by decide)).trans h.at_.c7⟩, fun i => by rw [World.frozen?_setCell]; exact h.fr i⟩
theorem JBox.set2 {w : World} {q : Nat} {x : Ik} (z : Int) (h : JBox w q x) : JBox (w.setCell ⟨q, 2, none⟩ (.int .i64 z)) q { x with r := z } :=
  ⟨⟨(pset_else (by decide)).trans h.at_.c0, (pset_else (by decide)).trans h.at_.c1, pset_same h.at_.c2, (pset_else (by decide)).trans h.at_.c3, (pset_else (by decide)).trans h.at_.c4, (pset_else (by decide)).trans h.at_.c5, (pset_else (by decide)).trans h.at_.c6, (pset_else (by decide)).trans h.at_.c7⟩, fun i => by rw [World.frozen?_setCell]; exact h.fr i⟩
theorem JBox.set3 {w : World} {q : Nat} {x : Ik} (z : Int) (h : JBox w q x) : JBox (w.setCell ⟨q, 3, none⟩ (.int .i64 z)) q { x with c := z } :=
  ⟨⟨(pset_else (by decide)).trans h.at_.c0, (pset_else (by decide)).trans h.at_.c1, (pset_else (by decide)).trans h.at_.c2, pset_same h.at_.c3, (pset_else (by decide)).trans h.at_.c4, (pset_else (by decide)).trans h.at_.c5, (pset_else (by decide)).trans h.at_.c6, (pset_else (by decide)).trans h.at_.c7⟩, fun i => by rw [World.frozen?_setCell]; exact h.fr i⟩
theorem JBox.set4 {w : World} {q : Nat} {x : Ik} (z : Int) (h : JBox w q x) : JBox (w.setCell ⟨q, 4, none⟩ (.int .i64 z)) q { x with b := z } :=
  ⟨⟨(pset_else (by decide)).trans h.at_.c0, (pset_else (by decide)).trans h.at_.c1, (pset_else (by decide)).trans h.at_.c2, (pset_else (by decide)).trans h.at_.c3, pset_same h.at_.c4, (pset_else (by decide)).trans h.at_.c5, (pset_else (by decide)).trans h.at_.c6, (pset_else (by decide)).trans h.at_.c7⟩, fun i => by rw [World.frozen?_setCell]; exact h.fr i⟩
theorem JBox.set5 {w : World} {q : Nat} {x : Ik} (z : Int) (h : JBox w q x) : JBox (w.setCell ⟨q, 5, none⟩ (.int .i64 z)) q { x with p := z } :=
  ⟨⟨(pset_else (by decide)).trans h.at_.c0, (pset_else (by decide)).trans h.at_.c1, (pset_else (by decide)).trans h.at_.c2, (pset_else (by decide)).trans h.at_.c3, (pset_else (by decide)).trans h.at_.c4, pset_same h.at_.c5, (pset_else (by decide)).trans h.at_.c6, (pset_else (by decide)).trans h.at_.c7⟩, fun i => by rw [World.frozen?_setCell]; exact h.fr i⟩
theorem JBox.set6 {w : World} {q : Nat} {x : Ik} (z : Int) (h : JBox w q x) : JBox (w.setCell ⟨q, 6, none⟩ (.int .i64 z)) q { x with h := z } :=
  ⟨⟨(pset_else (by decide)).trans h.at_.c0, (pset_else (by decide)).trans h.at_.c1, (pset_else (by decide)).trans h.at_.c2, (pset_else (by decide)).trans h.at_.c3, (pset_else (by decide)).trans h.at_.c4, (pset_else (by decide)).trans h.at_.c5, pset_same h.at_.c6, (pset_else (by decide)).trans h.at_.c7⟩, fun i => by rw [World.frozen?_setCell]; exact h.fr i⟩
theorem JBox.set7 {w : World} {q : Nat} {x : Ik} (z : Bool) (h : JBox w q x) : JBox (w.setCell ⟨q, 7, none⟩ (.bool z)) q { x with up := z } :=
  ⟨⟨(pset_else (by decide)).trans h.at_.c0, (pset_else (by decide)).trans h.at_.c1, (pset_else (by decide)).trans h.at_.c2, (pset_else (by decide)).trans h.at_.c3, (pset_else (by decide)).trans h.at_.c4, (pset_else (by decide)).trans h.at_.c5, (pset_else (by decide)).trans h.at_.c6, pset_same h.at_.c7⟩, fun i => by rw [World.frozen?_setCell]; exact h.fr i⟩
theorem JBox.putAll {w : World} {q : Nat} {x : Ik} (h : JBox w q x) (y : Ik) : JBox ((((((((w.setCell ⟨q, 0, none⟩ (.int .i64 y.k)).setCell ⟨q, 1, none⟩ (.int .i64 y.q)).setCell ⟨q, 2, none⟩ (.int .i64 y.r)).setCell ⟨q, 3, none⟩ (.int .i64 y.c)).setCell ⟨q, 4, none⟩ (.int .i64 y.b)).setCell ⟨q, 5, none⟩ (.int .i64 y.p)).setCell ⟨q, 6, none⟩ (.int .i64 y.h)).setCell ⟨q, 7, none⟩ (.bool y.up)) q y :=
  ((((((((h.set0 y.k).set1 y.q).set2 y.r).set3 y.c).set4 y.b).set5 y.p).set6 y.h).set7 y.up)
theorem below_all {a w : World} {n q : Nat} (h : Below n a w) (hq : n ≤ q) (y : Ik) : Below n a ((((((((w.setCell ⟨q, 0, none⟩ (.int .i64 y.k)).setCell ⟨q, 1, none⟩ (.int .i64 y.q)).setCell ⟨q, 2, none⟩ (.int .i64 y.r)).setCell ⟨q, 3, none⟩ (.int .i64 y.c)).setCell ⟨q, 4, none⟩ (.int .i64 y.b)).setCell ⟨q, 5, none⟩ (.int .i64 y.p)).setCell ⟨q, 6, none⟩ (.int .i64 y.h)).setCell ⟨q, 7, none⟩ (.bool y.up)) :=
  (((((((h.setCell hq _).setCell hq _).setCell hq _).setCell hq _).setCell hq _).setCell hq _).setCell hq _).setCell hq _
theorem rdN_bd {L : List Int} {a : Int} {o : Bool} (h : -9223372036854775808 ≤ a ∧ a ≤ 9223372036854775807) (hl : L.length ≤ 1048576) : -9223372036854775808 ≤ (rdN L (a, o)).2.1 ∧ (rdN L (a, o)).2.1 ≤ 9223372036854775807 := by
  unfold rdN
  split
  · exact h
  · next n s hs =>
    have := numAtL_some hs
    split
    · simp only; omega
    · exact h
theorem u8_inj {x y : Int} (hx : 0 ≤ x ∧ x ≤ 255) (hy : 0 ≤ y ∧ y ≤ 255) (h : UInt8.ofNat x.toNat = UInt8.ofNat y.toNat) : x = y := by
  have := congrArg UInt8.toNat h
  simp only [UInt8.toNat_ofNat'] at this
  omega
theorem txt_toList (A : List Int) : (txt A).toList = A.map fun x => UInt8.ofNat x.toNat := by rw [ByteArray.toList_eq]; simp [txt]
theorem txt_inj {A B : List Int} (hA : ∀ x ∈ A, 0 ≤ x ∧ x ≤ 255) (hB : ∀ x ∈ B, 0 ≤ x ∧ x ≤ 255) (h : (A.map fun x => UInt8.ofNat x.toNat) = B.map fun x => UInt8.ofNat x.toNat) : A = B := by
  induction A generalizing B with
  | nil => cases B with
    | nil => rfl
    | cons y B => simp at h
  | cons x A ih => cases B with
    | nil => simp at h
    | cons y B =>
      simp only [List.map_cons, List.cons.injEq] at h
      rw [u8_inj (hA x (by simp)) (hB y (by simp)) h.1, ih (fun z hz => hA z (by simp [hz])) (fun z hz => hB z (by simp [hz])) h.2]
theorem txt_eq {A B : List Int} (hA : ∀ x ∈ A, 0 ≤ x ∧ x ≤ 255) (hB : ∀ x ∈ B, 0 ≤ x ∧ x ≤ 255) : ((txt A).toList == (txt B).toList) = decide (A = B) := by
  rw [txt_toList, txt_toList]
  by_cases h : A = B
  · subst h; simp
  · rw [decide_eq_false h]
    simp only [beq_eq_false_iff_ne, ne_eq]
    exact fun e => h (txt_inj hA hB e)
theorem low4_bd (s : Int) : ∀ x ∈ low4 s, 0 ≤ x ∧ x ≤ 255 := by
  intro x hx
  simp only [low4, List.mem_cons, List.not_mem_nil, or_false] at hx
  omega
theorem inBy_bd (x : Ik) : ∀ y ∈ inBy x, 0 ≤ y ∧ y ≤ 255 := by
  intro y hy
  unfold inBy at hy
  split at hy
  · next h =>
    rcases List.mem_append.1 hy with h1 | h1
    · have := inOk_N h y h1; omega
    · exact low4_bd _ y h1
  · simp at hy
/-- What both InOf hand back. -/
def inOfV : Option (Ik × Int) → Value
  | none => .tuple #[.agg #[.int .i64 0, .int .i64 0, .int .i64 0, .int .i64 0, .int .i64 0, .int .i64 0, .int .i64 0, .bool false], .int .i64 0, .bool false]
  | some (x, s) => .tuple #[.agg #[.int .i64 x.k, .int .i64 x.q, .int .i64 x.r, .int .i64 x.c, .int .i64 x.b, .int .i64 x.p, .int .i64 x.h, .bool x.up], .int .i64 s, .bool true]
theorem cut_view {w : World} {b off : Nat} {L : List Int} (hv : View w (some ⟨b, off, none⟩) L.length (fun i => L.getD i 0)) (p q : Nat) (h : p + q ≤ L.length) :
    View w (some ⟨b, off + p, none⟩) ((L.drop p).take q).length (fun i => ((L.drop p).take q).getD i 0) := by
  intro hp
  have hq : ((L.drop p).take q).length = q := by simp; omega
  rw [hq] at hp ⊢
  obtain ⟨b', off', e, hc⟩ := hv (by omega)
  cases e
  refine ⟨b, off + p, rfl, fun i hi => ?_⟩
  have := hc (p + i) (by omega)
  rw [Nat.add_assoc, this]
  congr 2
  simp [List.getD, hi]
theorem cut_bd {L : List Int} (hL : ∀ x ∈ L, 0 ≤ x ∧ x ≤ 255) (p q : Nat) : ∀ x ∈ (L.drop p).take q, 0 ≤ x ∧ x ≤ 255 :=
  fun x hx => hL x (List.mem_of_mem_drop (List.mem_of_mem_take hx))

end Go.Proofs.YthgcbihhdbpbdaaGreatDoor
namespace Go.Proofs.YthgcbihhdbpbdaaGreatDoor
open Go.ChangeShapes Go.WideShapes Go.ChangeAt Go.RowKit
open Go.ChangeMaps (open_string shut_string)
set_option linter.unusedVariables false
set_option maxRecDepth 100000

theorem allB_next {L : List Ik} {k : Nat} (hk : k < L.length) : allB (L.take k) ++ inBy (L.getD k Ik.nil) = allB (L.take (k + 1)) := by
  have e : L.getD k Ik.nil = L[k] := by simp [List.getD, List.getElem?_eq_getElem hk]
  rw [e, List.take_add_one, List.getElem?_eq_getElem hk, allB, allB, List.map_append, List.flatten_append]
  simp only [Option.toList_some, List.map_cons, List.map_nil, List.flatten_cons, List.flatten_nil, List.append_nil]
theorem allB_len (L : List Ik) : (allB L).length ≤ 11 * L.length := by
  induction L with
  | nil => simp [allB]
  | cons x L ih =>
    have h := inBy_len x
    simp only [allB, List.map_cons, List.flatten_cons, List.length_append, List.length_cons] at ih ⊢
    omega
set_option maxHeartbeats 4000000 in
theorem allBI (ad : Option Addr) (cap : Nat) (L : List Ik) (w : World) (hv : FView ikEnc w ad L) (hl : L.length ≤ 1048576) :
    Calls Tryz.prog 12 #[.slice ad L.length cap] w fun e w' => ∃ a c, e = .returned (.slice a (allB L).length c) ∧ FOwn bEnc 1 5 w.heap.size w' (.slice a (allB L).length c) (allB L) ∧ Below w.heap.size w w' := by
  have hB := hv.lt ikEnc_len (by omega)
  go_enter Tryz.func12, Tryz.ntmps12
  go_wp2
  go_loopw [3, 8] (fun v i wr => ∃ k : Nat, k ≤ L.length ∧ i = .int .i64 k ∧ FOwn bEnc 1 5 w.heap.size wr v (allB (L.take k)) ∧ Below w.heap.size w wr) (fun _ i _ => L.length - (intOf i).toNat)
  case atStart => exact ⟨0, Nat.zero_le _, rfl, FOwn.nil, Below.refl _ _⟩
  case round =>
    obtain ⟨k, hk, rfl, O, B⟩ := hrel
    by_cases hlt : k < L.length
    · obtain ⟨b, off, rfl, _⟩ := hv (by omega)
      have HT : Hid (allB (L.take k) ++ inBy (L.getD k Ik.nil) = allB (L.take (k + 1))) := allB_next hlt
      have hml : (allB (L.take k)).length ≤ 11534336 := by have := allB_len (L.take k); simp at this; omega
      obtain ⟨h, hh⟩ : ∃ h, L.getD k Ik.nil = h := ⟨_, rfl⟩
      have hck : IkAtO wr b (off + k * 8) h := by
        rw [← hh]
        exact ikAtO_of ((hv.below B hB).at_ ikEnc_len Ik.nil hlt)
      rw [hh] at HT
      have hbl : b < wr.heap.size := World.block_lt_of_cell? wr _ hck.c0
      obtain ⟨c0, c1, c2, c3, c4, c5, c6, c7⟩ := hck
      obtain ⟨M, hM⟩ : ∃ M, allB (L.take k) = M := ⟨_, rfl⟩
      rw [hM] at O HT hml
      clear hM hh
      have hih := inBy_len h
      obtain ⟨w1, hw1⟩ : ∃ y, y = wr.alloc (Obj.cells #[.int .i64 h.k, .int .i64 h.q, .int .i64 h.r, .int .i64 h.c, .int .i64 h.b, .int .i64 h.p, .int .i64 h.h, .bool h.up] 27) := ⟨_, rfl⟩
      have j1 : Below wr.heap.size wr w1 := by rw [hw1]; exact below_new _
      have N1 : InAt w1 wr.heap.size h := by rw [hw1]; exact InAt.new wr _ h
      have O := O.later j1
      have B1 := B.trans (j1.mono B.size)
      go_wp2_with fail
      go_at_call 7
      rw [← hw1]
      clear hw1 N1 c0 c1 c2 c3 c4 c5 c6 c7
      refine (inBIo h w1).mono ?_
      rintro e w2 ⟨a2, c2, rfl, O2, k2⟩
      have B2 := B1.trans (k2.mono B1.size)
      have O := O.later k2
      have V2 := bV O2.view.2
      have hc2 := O2.capn
      clear O2
      generalize inBy h = X at V2 HT hih ⊢
      have S2 := B2.size
      go_wp2_with (first | (at_builtin; refine app_view rfl _ _ rfl w.heap.size _ M rfl (bTo_ O) a2 c2 X rfl V2 ?n1 ?n2 ?n3 ?_))
      case n1 => exact fun _ e => hc2 e
      try case n2 => omega
      try case n3 => omega
      intro v3 w3 o3 k3
      have B3 := B2.trans k3
      have O3 : FOwn bEnc 1 5 w.heap.size w3 v3 (M ++ X) := bOf (by simpa using o3)
      rw [HT.out] at O3
      go_wp2
      go_roundw
      case rel => exact ⟨k + 1, by omega, by go_num, O3, B3⟩
      case measure => simp [intOf]; omega
    · obtain rfl : k = L.length := by omega
      rw [List.take_length] at O
      obtain ⟨a, c, rfl⟩ := O.open_
      go_wp2
      go_ret
      exact ⟨a, c, rfl, O, B⟩
set_option maxHeartbeats 4000000 in
theorem allBS (ad : Option Addr) (cap : Nat) (L : List Ik) (w : World) (hv : FView ikEnc w ad L) (hl : L.length ≤ 1048576) :
    Calls Tryz.prog 19 #[.slice ad L.length cap] w fun e w' => ∃ a c, e = .returned (.slice a (allB L).length c) ∧ FOwn bEnc 1 5 w.heap.size w' (.slice a (allB L).length c) (allB L) ∧ Below w.heap.size w w' := by
  have hB := hv.lt ikEnc_len (by omega)
  go_enter Tryz.func19, Tryz.ntmps19
  go_wp2
  go_loopw [3, 4] (fun v i wr => ∃ k : Nat, k ≤ L.length ∧ i = .int .i64 k ∧ FOwn bEnc 1 5 w.heap.size wr v (allB (L.take k)) ∧ Below w.heap.size w wr) (fun _ i _ => L.length - (intOf i).toNat)
  case atStart => exact ⟨0, Nat.zero_le _, rfl, FOwn.empty w, (Below.refl _ _).alloc (Nat.le_refl _) _⟩
  case round =>
    obtain ⟨k, hk, rfl, O, B⟩ := hrel
    by_cases hlt : k < L.length
    · obtain ⟨b, off, rfl, _⟩ := hv (by omega)
      have HT : Hid (allB (L.take k) ++ inBy (L.getD k Ik.nil) = allB (L.take (k + 1))) := allB_next hlt
      have hml : (allB (L.take k)).length ≤ 11534336 := by have := allB_len (L.take k); simp at this; omega
      obtain ⟨h, hh⟩ : ∃ h, L.getD k Ik.nil = h := ⟨_, rfl⟩
      have hck : IkAtO wr b (off + k * 8) h := by
        rw [← hh]
        exact ikAtO_of ((hv.below B hB).at_ ikEnc_len Ik.nil hlt)
      rw [hh] at HT
      have hbl : b < wr.heap.size := World.block_lt_of_cell? wr _ hck.c0
      obtain ⟨c0, c1, c2, c3, c4, c5, c6, c7⟩ := hck
      obtain ⟨M, hM⟩ : ∃ M, allB (L.take k) = M := ⟨_, rfl⟩
      rw [hM] at O HT hml
      clear hM hh
      have hih := inBy_len h
      have w1e : wr = wr := rfl
      have B1 := B
      go_wp2_with fail
      go_at_call 18
      clear c0 c1 c2 c3 c4 c5 c6 c7 w1e
      refine (inBSo h wr).mono ?_
      rintro e w2 ⟨a2, c2, rfl, O2, k2⟩
      have B2 := B1.trans (k2.mono B1.size)
      have O := O.later k2
      have V2 := bV O2.view.2
      have hc2 := O2.capn
      clear O2
      generalize inBy h = X at V2 HT hih ⊢
      have S2 := B2.size
      go_wp2_with (first | (at_builtin; refine app_view rfl _ _ rfl w.heap.size _ M rfl (bTo_ O) a2 c2 X rfl V2 ?n1 ?n2 ?n3 ?_))
      case n1 => exact fun _ e => hc2 e
      try case n2 => omega
      try case n3 => omega
      intro v3 w3 o3 k3
      have B3 := B2.trans k3
      have O3 : FOwn bEnc 1 5 w.heap.size w3 v3 (M ++ X) := bOf (by simpa using o3)
      rw [HT.out] at O3
      go_wp2
      go_roundw
      case rel => exact ⟨k + 1, by omega, by go_num, O3, B3⟩
      case measure => simp [intOf]; omega
    · obtain rfl : k = L.length := by omega
      rw [List.take_length] at O
      obtain ⟨a, c, rfl⟩ := O.open_
      go_wp2
      go_ret
      exact ⟨a, c, rfl, O, B⟩

end Go.Proofs.YthgcbihhdbpbdaaGreatDoor
namespace Go.Proofs.YthgcbihhdbpbdaaGreatDoor
open Go.ChangeShapes Go.WideShapes Go.ChangeAt Go.RowKit
open Go.ChangeMaps (open_string shut_string)
set_option linter.unusedVariables false
set_option maxRecDepth 100000

set_option maxHeartbeats 4000000 in
theorem allBSn (ad : Option Addr) (cap : Nat) (L : List Ik) (w : World) (hv : FView ikEnc w ad L) (hl : L.length ≤ 100) :
    Calls Tryz.prog 19 #[.slice ad L.length cap] w fun e w' => ∃ a c, e = .returned (.slice a (allB L).length c) ∧ FOwn bEnc 1 5 w.heap.size w' (.slice a (allB L).length c) (allB L) ∧ Below w.heap.size w w' ∧ a ≠ none := by
  obtain ⟨i0, hi, hz0, hz1, hz2⟩ := info_parts bInfo
  have hB := hv.lt ikEnc_len (by omega)
  go_enter Tryz.func19, Tryz.ntmps19
  go_wp2
  go_loopw [3, 4] (fun v i wr => ∃ k : Nat, k ≤ L.length ∧ i = .int .i64 k ∧ FOwn bEnc 1 5 w.heap.size wr v (allB (L.take k)) ∧ Below w.heap.size w wr ∧ v.ownBlock ≠ none) (fun _ i _ => L.length - (intOf i).toNat)
  case atStart => exact ⟨0, Nat.zero_le _, rfl, FOwn.empty w, (Below.refl _ _).alloc (Nat.le_refl _) _, by simp [Value.ownBlock]⟩
  case round =>
    obtain ⟨k, hk, rfl, O, B, hsm⟩ := hrel
    by_cases hlt : k < L.length
    · obtain ⟨b, off, rfl, _⟩ := hv (by omega)
      have HT : Hid (allB (L.take k) ++ inBy (L.getD k Ik.nil) = allB (L.take (k + 1))) := allB_next hlt
      have hml : (allB (L.take k)).length ≤ 1100 := by have := allB_len (L.take k); simp at this; omega
      obtain ⟨h, hh⟩ : ∃ h, L.getD k Ik.nil = h := ⟨_, rfl⟩
      have hck : IkAtO wr b (off + k * 8) h := by
        rw [← hh]
        exact ikAtO_of ((hv.below B hB).at_ ikEnc_len Ik.nil hlt)
      rw [hh] at HT
      have hbl : b < wr.heap.size := World.block_lt_of_cell? wr _ hck.c0
      obtain ⟨c0, c1, c2, c3, c4, c5, c6, c7⟩ := hck
      obtain ⟨M, hM⟩ : ∃ M, allB (L.take k) = M := ⟨_, rfl⟩
      rw [hM] at O HT hml
      clear hM hh
      have hih := inBy_len h
      have w1e : wr = wr := rfl
      have B1 := B
      go_wp2_with fail
      go_at_call 18
      clear c0 c1 c2 c3 c4 c5 c6 c7 w1e
      refine (inBSo h wr).mono ?_
      rintro e w2 ⟨a2, c2, rfl, O2, k2⟩
      have B2 := B1.trans (k2.mono B1.size)
      have O := O.later k2
      have V2 := O2.view.2
      have hc2 := O2.capn
      clear O2
      generalize inBy h = X at V2 HT hih ⊢
      have S2 := B2.size
      have ho : ∀ g, u3.ownBlock = some g → w.heap.size ≤ g := fun g e => (O.lt g e).1
      go_wp2_with (first | (at_builtin; refine fappL bEnc_len bEnc_ones rfl _ _ 22 rfl w.heap.size 5 i0 (.int .u8 0) 1 Tryz.underlying22 hi hz0 hz1 hz2 rfl (by decide) (by decide) _ M rfl O a2 c2 X rfl hc2 V2 ?n2 ?n3 ?_))
      try case n2 => omega
      try case n3 => omega
      intro v3 w3 O3 g3 e3
      have B3 := B2.grown g3 S2 ho
      have hsm3 : v3.ownBlock ≠ none := by rcases e3 with e | e <;> rw [e] <;> simp_all
      rw [HT.out] at O3
      go_wp2
      go_roundw
      case rel => exact ⟨k + 1, by omega, by go_num, O3, B3, hsm3⟩
      case measure => simp [intOf]; omega
    · obtain rfl : k = L.length := by omega
      rw [List.take_length] at O
      obtain ⟨a, c, rfl⟩ := O.open_
      go_wp2
      go_ret
      exact ⟨a, c, rfl, O, B, fun e => by rw [e] at hsm; exact hsm rfl⟩

end Go.Proofs.YthgcbihhdbpbdaaGreatDoor
namespace Go.Proofs.YthgcbihhdbpbdaaGreatDoor
open Go.ChangeShapes Go.WideShapes Go.ChangeAt Go.RowKit
open Go.ChangeMaps (open_string shut_string)
set_option linter.unusedVariables false
set_option maxRecDepth 100000

/-- What is still to be read, behind what was. -/
def rdJoin (pre : List Int) : Option (List Int × Int) → Option (List Int × Int)
  | none => none
  | some (M, e) => some (pre ++ M, e)
theorem rdJoin_nil (r : Option (List Int × Int)) : rdJoin [] r = r := by cases r <;> rfl
theorem rdJoin_none {L : List Int} {c : Nat} {a : Int} (pre : List Int) (h : numAtL L a = none) : rdJoin pre (rdAll L (c + 1) a) = none := by
  rw [rdAll, h]; rfl
theorem rdJoin_some {L : List Int} {c : Nat} {a n s : Int} (pre : List Int) (h : numAtL L a = some (n, s)) : rdJoin pre (rdAll L (c + 1) a) = rdJoin (pre ++ [n]) (rdAll L c s) := by
  rw [rdAll, h]
  simp only
  cases rdAll L c s with
  | none => rfl
  | some y => simp [rdJoin]
set_option maxHeartbeats 4000000 in
theorem numsAtI (ad : Option Addr) (cap : Nat) (L : List Int) (a0 : Int) (cnt : Nat) (w : World) (hv : View w ad L.length (fun i => L.getD i 0)) (hB : ∀ x, ad = some x → 0 < L.length → x.block < w.heap.size) (hl : L.length ≤ 1048576) (hLbd : ∀ x ∈ L, 0 ≤ x ∧ x ≤ 255) (ha0 : -9223372036854775808 ≤ a0 ∧ a0 ≤ 9223372036854775807) (hc : cnt ≤ 7) (tp : TypeId) (pv : Value) (hs : w.cell? ⟨1, 0, none⟩ = some (.iface tp pv)) :
    Calls Tryz.prog 83 #[.slice ad L.length cap, .int .i64 a0, .int .i64 cnt] w fun e w' => (match rdAll L cnt a0 with
      | none => e = .returned (.tuple #[.slice none 0 0, .int .i64 0, .bool false])
      | some (M, s) => ∃ aM cM, e = .returned (.tuple #[.slice aM M.length cM, .int .i64 s, .bool true]) ∧ FOwn iEnc 1 3 w.heap.size w' (.slice aM M.length cM) M) ∧ Below w.heap.size w w' := by
  obtain ⟨i0, hi, hz0, hz1, hz2⟩ := info_parts iInfo
  have hbd := getD_bd hLbd
  obtain ⟨R, hR⟩ : ∃ R, rdAll L cnt a0 = R := ⟨_, rfl⟩
  have hR0 : Hid (rdJoin [] (rdAll L cnt a0) = R) := by show _ = _; rw [rdJoin_nil]; exact hR
  rw [hR]
  clear hR
  have hsl : 1 < w.heap.size := World.block_lt_of_cell? w _ hs
  go_enter Tryz.func83, Tryz.ntmps83
  go_wp2
  go_loopw [1, 9, 14] (fun av v i wr => ∃ (k : Nat) (a : Int) (pre : List Int), k ≤ cnt ∧ (-9223372036854775808 ≤ a ∧ a ≤ 9223372036854775807) ∧ pre.length = k ∧ i = .int .i64 k ∧ av = .int .i64 a ∧ Hid (rdJoin pre (rdAll L (cnt - k) a) = R) ∧ FOwn iEnc 1 3 w.heap.size wr v pre ∧ Below w.heap.size w wr) (fun _ _ i _ => cnt - (intOf i).toNat)
  case atStart => exact ⟨0, a0, [], Nat.zero_le _, ha0, rfl, rfl, rfl, by simpa using hR0, FOwn.nil, Below.refl _ _⟩
  case round =>
    obtain ⟨k, a, pre, hk, ha, hpl, rfl, rfl, hG, O, B⟩ := hrel
    clear hR0
    by_cases hlt : k < cnt
    · obtain ⟨c, hc1⟩ : ∃ c, cnt - k = c + 1 := ⟨cnt - k - 1, by omega⟩
      have hc2 : cnt - (k + 1) = c := by omega
      rw [hc1] at hG
      have hs1 := (B.cell (p := ⟨1, 0, none⟩) hsl).trans hs
      have BS := B.size
      cases hx : numAtL L a with
      | none =>
        have hN := hG.out
        rw [rdJoin_none pre hx] at hN
        have hx' : Hid (getFrom L.length a (fun i => L.getD (a.toNat + i) 0) 5 0 = none) := hx
        clear hx hG hc1
        subst hN
        go_wp2_with fail
        go_at_call 82
        refine (getImpl ad L.length cap (fun i => L.getD i 0) a wr (hv.carry (fun x h h2 => B.block _ (hB x h h2))) (fun x h h2 => by have := hB x h h2; omega) hl hbd ha.1 ha.2 tp pv hs1).mono ?_
        rintro e w1 ⟨rfl, k1⟩
        rw [hx'.out]
        dsimp only [getRes]
        have B1 := B.trans (k1.mono BS)
        go_wp2
        go_ret3
        exact ⟨rfl, B1⟩
      | some y =>
        obtain ⟨n, s⟩ := y
        have hN := hG.out
        rw [rdJoin_some pre hx] at hN
        have hsb := numAtL_some hx
        have hx' : Hid (getFrom L.length a (fun i => L.getD (a.toNat + i) 0) 5 0 = some (n, s)) := hx
        rw [← hc2] at hN
        replace hN : Hid _ := hN
        clear hx hG hc1 hc2
        go_wp2_with fail
        go_at_call 82
        refine (getImpl ad L.length cap (fun i => L.getD i 0) a wr (hv.carry (fun x h h2 => B.block _ (hB x h h2))) (fun x h h2 => by have := hB x h h2; omega) hl hbd ha.1 ha.2 tp pv hs1).mono ?_
        rintro e w1 ⟨rfl, k1⟩
        rw [hx'.out]
        dsimp only [getRes]
        have B1 := B.trans (k1.mono BS)
        have O1 := O.later k1
        obtain ⟨w2, hw2⟩ : ∃ y_, y_ = w1.alloc (Obj.cells #[.int .i64 n] 3) := ⟨_, rfl⟩
        have V1 : FView iEnc w2 (some ⟨w1.heap.size, 0, none⟩) [n] := by rw [hw2]; exact iView_lit w1 [n] (by simp)
        have k2 : Below w1.heap.size w1 w2 := by rw [hw2]; exact below_new _
        have O2 := O1.later k2
        have B2 := B1.trans (k2.mono B1.size)
        have z1 := B2.size
        clear O O1 k1
        go_wp2_with (first | (at_builtin; refine fappL iEnc_len iEnc_ones rfl _ _ 72 rfl w.heap.size 3 i0 (.int .i64 0) 8 Tryz.underlying72 hi hz0 hz1 hz2 rfl (by decide) (by decide) _ pre rfl ?z0 (some ⟨w1.heap.size, 0, none⟩) 1 [n] rfl (fun e => by cases e) ?z1 ?z2 ?z3 ?_))
        case z0 => rw [← hw2]; exact O2
        case z1 => rw [← hw2]; exact V1
        try case z2 => simp; omega
        case z3 => have := B1.size; first | omega | (simp; omega)
        rw [← hw2]
        clear hw2
        intro vZ wZ oZ gZ _
        have BZ : Below w.heap.size w wZ := B2.grown gZ z1 (fun g e => (O2.lt g e).1)
        go_wp2
        go_roundw
        case rel => exact ⟨k + 1, s, pre ++ [n], by omega, by omega, by simp [hpl], by go_num, rfl, hN, oZ, BZ⟩
        case measure => simp [intOf]; omega
    · obtain rfl : k = cnt := by omega
      have hG := hG.out
      rw [Nat.sub_self] at hG
      simp only [rdAll, rdJoin, List.append_nil] at hG
      subst hG
      clear hpl
      obtain ⟨aM, cM, rfl⟩ := O.open_
      go_wp2
      go_ret3
      exact ⟨⟨aM, cM, rfl, O⟩, B⟩

end Go.Proofs.YthgcbihhdbpbdaaGreatDoor
