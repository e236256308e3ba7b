/- Cards that may be read, and cards that are owned. -/
import Derived.Test.YtifndemkkaelaaaGreatRows
import Derived.WalkKit
import Derived.ProofKit
import Derived.OpenShut
import Derived.ShutString
import Derived.ChangeOld
import Derived.Below
import Derived.Deep.QuietTactic
import Derived.BigQuiet
import Derived.WalkSmall
import Derived.Laws.OwnMore
import Derived.WalkSpells
import Derived.WalkLawsBesides
import Derived.Test.YtifndemkkaelaaaGreatZpNest
import Derived.Test.YtifndemkkaelaaaGreatZpBools
import Derived.Test.YtifndemkkaelaaaGreatZp13
namespace Go.Proofs.YtifndemkkaelaaaGreat
open Go.ChangeShapes Go.WideShapes Go.ChangeAt Go.RowKit
open Go.ChangeMaps (open_string shut_string)
set_option linter.unusedVariables false
set_option maxRecDepth 100000

/-- All blocks but those from lo on below hi are as they were. -/
structure KeptR (lo hi : Nat) (w w' : World) : Prop where
  os : w'.os = w.os
  tape : w'.tape = w.tape
  output : w'.output = w.output
  size : w.heap.size ≤ w'.heap.size
  block : ∀ k, k < w.heap.size → (k < lo ∨ hi ≤ k) → w'.heap[k]? = w.heap[k]?
theorem KeptR.refl (lo hi : Nat) (w : World) : KeptR lo hi w w := ⟨rfl, rfl, rfl, Nat.le_refl _, fun _ _ _ => rfl⟩
theorem KeptR.trans {lo hi : Nat} {a b c : World} (h : KeptR lo hi a b) (k : KeptR lo hi b c) : KeptR lo hi a c :=
  ⟨k.os.trans h.os, k.tape.trans h.tape, k.output.trans h.output, Nat.le_trans h.size k.size, fun j hj hn => (k.block j (Nat.lt_of_lt_of_le hj h.size) hn).trans (h.block j hj hn)⟩
theorem KeptR.below {lo hi : Nat} {a b : World} (h : KeptR lo hi a b) (hs : lo ≤ a.heap.size) : Below lo a b := ⟨h.os, h.tape, h.output, h.size, fun j hj => h.block j (by omega) (.inl hj)⟩
theorem KeptR.of_below {lo hi : Nat} {a b : World} (h : Below a.heap.size a b) : KeptR lo hi a b := ⟨h.os, h.tape, h.output, h.size, fun j hj _ => h.block j hj⟩
theorem KeptR.of_F {lo hi : Nat} {fp : List Nat} {a b : World} (h : KeptF fp a b) (hf : ∀ x ∈ fp, lo ≤ x ∧ x < hi) : KeptR lo hi a b :=
  ⟨h.os, h.tape, h.output, h.size, fun j hj hn => h.block j hj (fun m => by have := hf j m; omega)⟩
theorem KeptR.of_mark {lo hi : Nat} {ad : Option Addr} {len : Nat} {a b : World} (h : b = a ∨ ∃ x, ad = some x ∧ 0 < len ∧ a.grownBy b (some x.block)) (hf : ∀ x, ad = some x → 0 < len → lo ≤ x.block ∧ x.block < hi) : KeptR lo hi a b := by
  rcases h with rfl | ⟨x, e, hp, g⟩
  · exact KeptR.refl _ _ _
  · have := hf x e hp
    exact ⟨g.os, g.tape, g.output, g.size, fun j hj hn => g.block j hj (fun q => by
      have q2 : j = x.block := by simpa using q
      omega)⟩
/-- What a list of members says. -/
abbrev DL := List (Int × List Int)
theorem d_get (Ms : List Mb) (i : Nat) : (Ms.map Mb.d).getD i (0, []) = (Ms.getD i Mb.nil).d := by
  simp only [List.getD, List.getElem?_map]
  cases Ms[i]? <;> rfl
/-- A card that may be read: what it says, and that its memory lies from lo on below hi. -/
structure CdV (w : World) (lo hi : Nat) (adO : Option Addr) (O : List Bool) (adM : Option Addr) (D : DL) (adT : Option Addr) (T : List Hd) : Prop where
  vO : ViewB w adO O.length (fun i => O.getD i false)
  iO : ∀ x, adO = some x → 0 < O.length → lo ≤ x.block ∧ x.block < hi
  vM : ∃ Ms : List Mb, Ms.map Mb.d = D ∧ MbV w adM Ms ∧ (∀ x, adM = some x → 0 < Ms.length → lo ≤ x.block ∧ x.block < hi) ∧ ∀ i, i < Ms.length → ∀ x, (Ms.getD i Mb.nil).ad = some x → 0 < (Ms.getD i Mb.nil).L.length → lo ≤ x.block ∧ x.block < hi
  vT : HView w adT T
  iT : ∀ x, adT = some x → 0 < T.length → lo ≤ x.block ∧ x.block < hi
/-- A card whose memory is its own: no two of its rows are one; they may be written. -/
structure CdW (w : World) (lo hi : Nat) (adO : Option Addr) (O : List Bool) (adM : Option Addr) (D : DL) (adT : Option Addr) (T : List Hd) : Prop where
  vO : ViewB w adO O.length (fun i => O.getD i false)
  rO : Room w adO O.length
  iO : ∀ x, adO = some x → 0 < O.length → lo ≤ x.block ∧ x.block < hi
  vM : ∃ (Ms : List Mb) (fp : List Nat), Ms.map Mb.d = D ∧ MbW w adM Ms fp ∧ (∀ x ∈ fp, lo ≤ x ∧ x < hi) ∧ (∀ x, adO = some x → 0 < O.length → x.block ∉ fp) ∧ ∀ x, adT = some x → 0 < T.length → x.block ∉ fp
  vT : HView w adT T
  rT : HRoom w adT T.length
  iT : ∀ x, adT = some x → 0 < T.length → lo ≤ x.block ∧ x.block < hi
  apart : ∀ x y, adO = some x → adT = some y → 0 < O.length → 0 < T.length → x.block ≠ y.block
theorem CdW.view {w : World} {lo hi : Nat} {adO : Option Addr} {O : List Bool} {adM : Option Addr} {D : DL} {adT : Option Addr} {T : List Hd} (h : CdW w lo hi adO O adM D adT T) : CdV w lo hi adO O adM D adT T := by
  obtain ⟨Ms, fp, e, m, f, _, _⟩ := h.vM
  exact ⟨h.vO, h.iO, ⟨Ms, e, m.view, fun x q p => f _ (m.rowIn x q p), fun i hi x q p => f _ (m.nestIn i hi x q p)⟩, h.vT, h.iT⟩
theorem CdV.keep {w w' : World} {lo hi : Nat} {adO : Option Addr} {O : List Bool} {adM : Option Addr} {D : DL} {adT : Option Addr} {T : List Hd} (h : CdV w lo hi adO O adM D adT T) (k : ∀ j, lo ≤ j → j < hi → w'.heap[j]? = w.heap[j]?) : CdV w' lo hi adO O adM D adT T := by
  obtain ⟨Ms, e, m, f1, f2⟩ := h.vM
  exact ⟨h.vO.carry (fun x q p => k _ (h.iO x q p).1 (h.iO x q p).2), h.iO, ⟨Ms, e, m.carry (fun x q p => k _ (f1 x q p).1 (f1 x q p).2) (fun i hi x q p => k _ (f2 i hi x q p).1 (f2 i hi x q p).2), f1, f2⟩, h.vT.carry (fun x q p => k _ (h.iT x q p).1 (h.iT x q p).2), h.iT⟩
theorem CdV.wide {w : World} {lo hi lo' hi' : Nat} {adO : Option Addr} {O : List Bool} {adM : Option Addr} {D : DL} {adT : Option Addr} {T : List Hd} (h : CdV w lo hi adO O adM D adT T) (h1 : lo' ≤ lo) (h2 : hi ≤ hi') : CdV w lo' hi' adO O adM D adT T := by
  obtain ⟨Ms, e, m, f1, f2⟩ := h.vM
  exact ⟨h.vO, fun x q p => by have := h.iO x q p; omega, ⟨Ms, e, m, fun x q p => by have := f1 x q p; omega, fun i hi x q p => by have := f2 i hi x q p; omega⟩, h.vT, fun x q p => by have := h.iT x q p; omega⟩
theorem CdV.below {w w' : World} {lo hi B : Nat} {adO : Option Addr} {O : List Bool} {adM : Option Addr} {D : DL} {adT : Option Addr} {T : List Hd} (h : CdV w lo hi adO O adM D adT T) (k : Below B w w') (hB : hi ≤ B) : CdV w' lo hi adO O adM D adT T := h.keep fun j _ hj => k.block _ (by omega)
theorem CdV.kept {w w' : World} {lo hi l2 h2 : Nat} {adO : Option Addr} {O : List Bool} {adM : Option Addr} {D : DL} {adT : Option Addr} {T : List Hd} (h : CdV w lo hi adO O adM D adT T) (k : KeptR l2 h2 w w') (ht : hi ≤ w.heap.size) (hd : hi ≤ l2 ∨ h2 ≤ lo) : CdV w' lo hi adO O adM D adT T := h.keep fun j h1 h2 => k.block _ (by omega) (by omega)
theorem CdW.keep {w w' : World} {lo hi : Nat} {adO : Option Addr} {O : List Bool} {adM : Option Addr} {D : DL} {adT : Option Addr} {T : List Hd} (h : CdW w lo hi adO O adM D adT T) (k : ∀ j, lo ≤ j → j < hi → w'.heap[j]? = w.heap[j]?) : CdW w' lo hi adO O adM D adT T := by
  obtain ⟨Ms, fp, e, m, f, a1, a2⟩ := h.vM
  have e1 : ∀ x, adM = some x → 0 < Ms.length → w'.heap[x.block]? = w.heap[x.block]? := fun x q p => k _ (f _ (m.rowIn x q p)).1 (f _ (m.rowIn x q p)).2
  have e2 : ∀ i, i < Ms.length → ∀ x, (Ms.getD i Mb.nil).ad = some x → 0 < (Ms.getD i Mb.nil).L.length → w'.heap[x.block]? = w.heap[x.block]? := fun i hi x q p => k _ (f _ (m.nestIn i hi x q p)).1 (f _ (m.nestIn i hi x q p)).2
  exact ⟨h.vO.carry (fun x q p => k _ (h.iO x q p).1 (h.iO x q p).2), h.rO.carry (fun x q p => k _ (h.iO x q p).1 (h.iO x q p).2), h.iO, ⟨Ms, fp, e, ⟨m.view.carry e1 e2, m.room.carry (fun x q p => e1 x q (by omega)), fun i hi => (m.rooms i hi).carry (fun x q p => e2 i hi x q p), m.rowIn, m.nestIn, m.apart, m.aparts⟩, f, a1, a2⟩, h.vT.carry (fun x q p => k _ (h.iT x q p).1 (h.iT x q p).2), h.rT.carry (fun x q p => k _ (h.iT x q p).1 (h.iT x q p).2), h.iT, h.apart⟩
theorem CdW.below {w w' : World} {lo hi B : Nat} {adO : Option Addr} {O : List Bool} {adM : Option Addr} {D : DL} {adT : Option Addr} {T : List Hd} (h : CdW w lo hi adO O adM D adT T) (k : Below B w w') (hB : hi ≤ B) : CdW w' lo hi adO O adM D adT T := h.keep fun j _ hj => k.block _ (by omega)
theorem CdW.kept {w w' : World} {lo hi l2 h2 : Nat} {adO : Option Addr} {O : List Bool} {adM : Option Addr} {D : DL} {adT : Option Addr} {T : List Hd} (h : CdW w lo hi adO O adM D adT T) (k : KeptR l2 h2 w w') (ht : hi ≤ w.heap.size) (hd : hi ≤ l2 ∨ h2 ≤ lo) : CdW w' lo hi adO O adM D adT T := h.keep fun j h1 h2 => k.block _ (by omega) (by omega)
/-- How many marks a list of members takes. -/
def totD : DL → Nat
  | [] => 0
  | d :: D => 1 + d.2.length + totD D
/-- How much it counts. -/
def sizD : DL → Nat
  | [] => 0
  | d :: D => d.2.length + sizD D
theorem kTo_cons (m : Mb) (Ms : List Mb) : ∀ j, kTo (m :: Ms) (j + 1) = 1 + m.L.length + kTo Ms j
  | 0 => by show 0 + 1 + m.L.length = 1 + m.L.length + 0; omega
  | j + 1 => by
    show kTo (m :: Ms) (j + 1) + 1 + ((m :: Ms).getD (j + 1) Mb.nil).L.length = 1 + m.L.length + (kTo Ms j + 1 + (Ms.getD j Mb.nil).L.length)
    rw [kTo_cons m Ms j]
    show _ + 1 + (Ms.getD j Mb.nil).L.length = _
    omega
theorem kTo_tot : ∀ Ms : List Mb, kTo Ms Ms.length = totD (Ms.map Mb.d)
  | [] => rfl
  | m :: Ms => by
    rw [List.length_cons, kTo_cons, kTo_tot Ms]
    rfl
/-- How much the first j count. -/
def lTo (Ms : List Mb) : Nat → Nat
  | 0 => 0
  | j + 1 => lTo Ms j + (Ms.getD j Mb.nil).L.length
theorem lTo_cons (m : Mb) (Ms : List Mb) : ∀ j, lTo (m :: Ms) (j + 1) = m.L.length + lTo Ms j
  | 0 => by show 0 + m.L.length = m.L.length + 0; omega
  | j + 1 => by
    show lTo (m :: Ms) (j + 1) + ((m :: Ms).getD (j + 1) Mb.nil).L.length = m.L.length + (lTo Ms j + (Ms.getD j Mb.nil).L.length)
    rw [lTo_cons m Ms j]
    show _ + (Ms.getD j Mb.nil).L.length = _
    omega
theorem lTo_siz : ∀ Ms : List Mb, lTo Ms Ms.length = sizD (Ms.map Mb.d)
  | [] => rfl
  | m :: Ms => by
    rw [List.length_cons, lTo_cons, lTo_siz Ms]
    rfl
theorem lTo_mono (Ms : List Mb) {i j : Nat} (h : i ≤ j) : lTo Ms i ≤ lTo Ms j := by
  induction h with
  | refl => exact Nat.le_refl _
  | step _ ih => exact Nat.le_trans ih (by show _ ≤ lTo Ms _ + _; omega)
theorem kTo_lTo (Ms : List Mb) : ∀ j, kTo Ms j = j + lTo Ms j
  | 0 => rfl
  | j + 1 => by
    show kTo Ms j + 1 + _ = j + 1 + (lTo Ms j + _)
    rw [kTo_lTo Ms j]
    omega
theorem tot_siz (D : DL) : totD D = D.length + sizD D := by
  induction D with
  | nil => rfl
  | cons d D ih => simp only [totD, sizD, List.length_cons, ih]; omega
theorem getD_siz {D : DL} {i : Nat} (h : i < D.length) : (D.getD i (0, [])).2.length ≤ sizD D := by
  induction D generalizing i with
  | nil => simp at h
  | cons d D ih =>
    cases i with
    | zero => show d.2.length ≤ d.2.length + sizD D; omega
    | succ i =>
      have := ih (i := i) (by simpa using h)
      show (D.getD i (0, [])).2.length ≤ d.2.length + sizD D
      omega

end Go.Proofs.YtifndemkkaelaaaGreat
