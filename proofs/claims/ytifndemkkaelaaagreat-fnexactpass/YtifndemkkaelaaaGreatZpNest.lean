/- Lists of members, each with a list of its own. -/
import Derived.Test.YtifndemkkaelaaaGreatRows
import Derived.WalkKit
import Derived.ProofKit
import Derived.OpenShut
import Derived.ShutString
import Derived.ChangeOld
import Derived.Below
import Derived.Deep.QuietTactic
import Derived.BigQuiet
import Derived.WalkSmall
import Derived.Laws.OwnMore
import Derived.WalkSpells
import Derived.WalkLawsBesides
import Derived.Test.YtifndemkkaelaaaGreatZp7
namespace Go.Proofs.YtifndemkkaelaaaGreat
open Go.ChangeShapes Go.WideShapes Go.ChangeAt Go.RowKit
open Go.ChangeMaps (open_string shut_string)
set_option linter.unusedVariables false
set_option maxRecDepth 100000

/-- All blocks but those of fp are as they were. -/
structure KeptF (fp : List Nat) (w w' : World) : Prop where
  os : w'.os = w.os
  tape : w'.tape = w.tape
  output : w'.output = w.output
  size : w.heap.size ≤ w'.heap.size
  block : ∀ k, k < w.heap.size → k ∉ fp → w'.heap[k]? = w.heap[k]?
theorem KeptF.refl (fp : List Nat) (w : World) : KeptF fp w w := ⟨rfl, rfl, rfl, Nat.le_refl _, fun _ _ _ => rfl⟩
theorem KeptF.trans {fp : List Nat} {a b c : World} (h : KeptF fp a b) (k : KeptF fp b c) : KeptF fp a c :=
  ⟨k.os.trans h.os, k.tape.trans h.tape, k.output.trans h.output, Nat.le_trans h.size k.size, fun j hj hn => (k.block j (Nat.lt_of_lt_of_le hj h.size) hn).trans (h.block j hj hn)⟩
theorem KeptF.weak {fp fq : List Nat} {a b : World} (h : KeptF fp a b) (s : ∀ x ∈ fp, x ∈ fq) : KeptF fq a b :=
  ⟨h.os, h.tape, h.output, h.size, fun j hj hn => h.block j hj (fun m => hn (s j m))⟩
theorem KeptF.of_below {fp : List Nat} {a b : World} (h : Below a.heap.size a b) : KeptF fp a b := ⟨h.os, h.tape, h.output, h.size, fun j hj _ => h.block j hj⟩
theorem KeptF.below {fp : List Nat} {a b : World} {B : Nat} (h : KeptF fp a b) (hf : ∀ x ∈ fp, B ≤ x) (hs : B ≤ a.heap.size) : Below B a b :=
  ⟨h.os, h.tape, h.output, h.size, fun j hj => h.block j (by omega) (fun m => by have := hf j m; omega)⟩
theorem KeptF.of_grown {g : Nat} {a b : World} (h : a.grownBy b (some g)) : KeptF [g] a b := ⟨h.os, h.tape, h.output, h.size, fun j hj hn => h.block j hj (fun e => hn (by simp at e; simp [e]))⟩
theorem KeptF.of_kept {fp : List Nat} {ad : Option Addr} {a b : World} (h : Kept ad a b) (hf : ∀ x, ad = some x → x.block ∈ fp) : KeptF fp a b := by
  obtain ⟨r, g, hr⟩ := h
  exact ⟨g.os, g.tape, g.output, g.size, fun j hj hn => g.block j hj (fun e => hn (by obtain ⟨x, hx, e2⟩ := hr j e.symm; rw [← e2]; exact hf x hx))⟩
theorem KeptF.set {fp : List Nat} {a b : World} (h : KeptF fp a b) {g o : Nat} (hg : g ∈ fp) (v : Value) : KeptF fp a (b.setCell ⟨g, o, none⟩ v) :=
  ⟨h.os, h.tape, h.output, by simpa using h.size, fun j hj hn => (Below.heap_setCell _ _ _ _ (fun e => hn (by have : j = g := e; rw [this]; exact hg))).trans (h.block j hj hn)⟩

/-- One of the list, and where its own list lies. -/
structure Mb where
  o : Int
  ad : Option Addr
  cap : Nat
  L : List Int
def Mb.nil : Mb := ⟨0, none, 0, []⟩
/-- What it says. -/
def Mb.d (m : Mb) : Int × List Int := (m.o, m.L)
/-- Its 2 cells. -/
def MbAt (w : World) (b q : Nat) (m : Mb) : Prop :=
  w.cell? ⟨b, q, none⟩ = some (.int .i64 m.o) ∧ w.cell? ⟨b, q + 1, none⟩ = some (.slice m.ad m.L.length m.cap)
theorem MbAt.same {w w' : World} {b q : Nat} {m : Mb} (h : MbAt w b q m) (e : w'.heap[b]? = w.heap[b]?) : MbAt w' b q m :=
  ⟨(World.cell?_of_block (a := ⟨b, q, none⟩) e).trans h.1, (World.cell?_of_block (a := ⟨b, q + 1, none⟩) e).trans h.2⟩
/-- Its list. -/
def MbL (w : World) (m : Mb) : Prop := ViewI w m.ad m.L.length (fun i => m.L.getD i 0)
/-- The slice at 'ad' reads as the list Ms. -/
structure MbV (w : World) (ad : Option Addr) (Ms : List Mb) : Prop where
  row : 0 < Ms.length → ∃ b off, ad = some ⟨b, off, none⟩ ∧ ∀ i, i < Ms.length → MbAt w b (off + i * 2) (Ms.getD i Mb.nil)
  nest : ∀ i, i < Ms.length → MbL w (Ms.getD i Mb.nil)
  nil0 : ∀ i, i < Ms.length → (Ms.getD i Mb.nil).ad = none → (Ms.getD i Mb.nil).cap = 0
theorem MbV.lt {w : World} {ad : Option Addr} {Ms : List Mb} (h : MbV w ad Ms) (x : Addr) (e : ad = some x) (hp : 0 < Ms.length) : x.block < w.heap.size := by
  obtain ⟨b, off, e', hc⟩ := h.row hp
  rw [e] at e'
  cases e'
  exact World.block_lt_of_cell? w _ (hc 0 hp).1
theorem MbV.carry {w w' : World} {ad : Option Addr} {Ms : List Mb} (h : MbV w ad Ms) (h1 : ∀ x, ad = some x → 0 < Ms.length → w'.heap[x.block]? = w.heap[x.block]?) (h2 : ∀ i, i < Ms.length → ∀ x, (Ms.getD i Mb.nil).ad = some x → 0 < (Ms.getD i Mb.nil).L.length → w'.heap[x.block]? = w.heap[x.block]?) : MbV w' ad Ms := by
  refine ⟨fun hp => ?_, fun i hi => ViewI.carry (h.nest i hi) (fun x e hp => h2 i hi x e hp), h.nil0⟩
  obtain ⟨b, off, e, hc⟩ := h.row hp
  exact ⟨b, off, e, fun i hi => (hc i hi).same (h1 _ e hp)⟩
theorem MbV.below {w w' : World} {ad : Option Addr} {Ms : List Mb} {B : Nat} (h : MbV w ad Ms) (k : Below B w w') (hB : w.heap.size ≤ B) : MbV w' ad Ms :=
  h.carry (fun x e hp => k.block _ (Nat.lt_of_lt_of_le (h.lt x e hp) hB)) (fun i hi x e hp => k.block _ (Nat.lt_of_lt_of_le (ViewI.lt (h.nest i hi) x e hp) hB))
/-- Its memory is its own: where it lies, that it may be written, that no two of its rows are one. -/
structure MbW (w : World) (ad : Option Addr) (Ms : List Mb) (fp : List Nat) : Prop where
  view : MbV w ad Ms
  room : Room w ad (Ms.length * 2)
  rooms : ∀ i, i < Ms.length → Room w (Ms.getD i Mb.nil).ad (Ms.getD i Mb.nil).L.length
  rowIn : ∀ x, ad = some x → 0 < Ms.length → x.block ∈ fp
  nestIn : ∀ i, i < Ms.length → ∀ x, (Ms.getD i Mb.nil).ad = some x → 0 < (Ms.getD i Mb.nil).L.length → x.block ∈ fp
  apart : ∀ i, i < Ms.length → ∀ x y, ad = some x → (Ms.getD i Mb.nil).ad = some y → 0 < (Ms.getD i Mb.nil).L.length → y.block ≠ x.block
  aparts : ∀ i j, i < j → j < Ms.length → ∀ x y, (Ms.getD i Mb.nil).ad = some x → (Ms.getD j Mb.nil).ad = some y → 0 < (Ms.getD i Mb.nil).L.length → 0 < (Ms.getD j Mb.nil).L.length → x.block ≠ y.block
theorem MbW.kept {w w' : World} {ad : Option Addr} {Ms : List Mb} {fp fq : List Nat} (h : MbW w ad Ms fp) (k : KeptF fq w w') (hd : ∀ x ∈ fp, x ∉ fq) : MbW w' ad Ms fp := by
  have e1 : ∀ x, ad = some x → 0 < Ms.length → w'.heap[x.block]? = w.heap[x.block]? := fun x e hp => k.block _ (h.view.lt x e hp) (hd _ (h.rowIn x e hp))
  have e2 : ∀ i, i < Ms.length → ∀ x, (Ms.getD i Mb.nil).ad = some x → 0 < (Ms.getD i Mb.nil).L.length → w'.heap[x.block]? = w.heap[x.block]? := fun i hi x e hp => k.block _ (ViewI.lt (h.view.nest i hi) x e hp) (hd _ (h.nestIn i hi x e hp))
  exact ⟨h.view.carry e1 e2, h.room.carry (fun x e hp => e1 x e (by omega)), fun i hi => (h.rooms i hi).carry (fun x e hp => e2 i hi x e hp), h.rowIn, h.nestIn, h.apart, h.aparts⟩
theorem MbW.below {w w' : World} {ad : Option Addr} {Ms : List Mb} {fp : List Nat} {B : Nat} (h : MbW w ad Ms fp) (k : Below B w w') (hB : w.heap.size ≤ B) : MbW w' ad Ms fp := by
  have e1 : ∀ x, ad = some x → 0 < Ms.length → w'.heap[x.block]? = w.heap[x.block]? := fun x e hp => k.block _ (Nat.lt_of_lt_of_le (h.view.lt x e hp) hB)
  have e2 : ∀ i, i < Ms.length → ∀ x, (Ms.getD i Mb.nil).ad = some x → 0 < (Ms.getD i Mb.nil).L.length → w'.heap[x.block]? = w.heap[x.block]? := fun i hi x e hp => k.block _ (Nat.lt_of_lt_of_le (ViewI.lt (h.view.nest i hi) x e hp) hB)
  exact ⟨h.view.carry e1 e2, h.room.carry (fun x e hp => e1 x e (by omega)), fun i hi => (h.rooms i hi).carry (fun x e hp => e2 i hi x e hp), h.rowIn, h.nestIn, h.apart, h.aparts⟩

/-- The same, its list at the block n. -/
def Mb.to (m : Mb) (n : Nat) : Mb := ⟨m.o, some ⟨n, 0, none⟩, m.L.length, m.L⟩
/-- What a loop that fills the block B with members has done behind k rounds; Ns: where their lists lie. -/
structure MbF (B : Nat) (Ms : List Mb) (Ns : Nat → Nat) (k : Nat) (w wr : World) : Prop where
  bel : Below B w wr
  lt : B < wr.heap.size
  cells : ∀ j, j < Ms.length * 2 → ∃ u, wr.cell? ⟨B, j, none⟩ = some u
  fz : ∀ j, j < Ms.length * 2 → wr.frozen? ⟨B, j, none⟩ = false
  cell : ∀ j, j < k → MbAt wr B (j * 2) ((Ms.getD j Mb.nil).to (Ns j))
  list : ∀ j, j < k → MbL wr ((Ms.getD j Mb.nil).to (Ns j))
  room : ∀ j, j < k → Room wr (some ⟨Ns j, 0, none⟩) (Ms.getD j Mb.nil).L.length
  nb : ∀ j, j < k → B < Ns j ∧ Ns j < wr.heap.size
  inc : ∀ i j, i < j → j < k → Ns i < Ns j
theorem MbF.later {B : Nat} {Ms : List Mb} {Ns : Nat → Nat} {k : Nat} {w wr w2 : World} (h : MbF B Ms Ns k w wr) (b : Below wr.heap.size wr w2) : MbF B Ms Ns k w w2 := by
  have hb := b.block _ h.lt
  have hs := b.size
  have hl := h.lt
  refine ⟨h.bel.trans (b.mono (by omega)), by omega, fun j hj => ?_, fun j hj => ?_, fun j hj => (h.cell j hj).same hb, fun j hj => ?_, fun j hj => ?_, fun j hj => ⟨(h.nb j hj).1, by have := (h.nb j hj).2; omega⟩, h.inc⟩
  · obtain ⟨u, hu⟩ := h.cells j hj
    exact ⟨u, (World.cell?_of_block (a := ⟨B, j, none⟩) hb).trans hu⟩
  · exact (World.frozen?_of_block (a := ⟨B, j, none⟩) hb).trans (h.fz j hj)
  · exact ViewI.carry (h.list j hj) (fun x e _ => by cases e; exact b.block _ (h.nb j hj).2)
  · exact (h.room j hj).carry (fun x e _ => by cases e; exact b.block _ (h.nb j hj).2)
theorem MbF.step {B : Nat} {Ms : List Mb} {Ns : Nat → Nat} {k : Nat} {w wr : World} {N : Nat} (h : MbF B Ms Ns k w wr) (hk : k < Ms.length) (hN : B < N ∧ N < wr.heap.size) (hi : ∀ j, j < k → Ns j < N)
    (hv : ViewI wr (some ⟨N, 0, none⟩) (Ms.getD k Mb.nil).L.length (fun i => (Ms.getD k Mb.nil).L.getD i 0)) (hr : Room wr (some ⟨N, 0, none⟩) (Ms.getD k Mb.nil).L.length) :
    MbF B Ms (fun j => if j = k then N else Ns j) (k + 1) w ((wr.setCell ⟨B, k * 2, none⟩ (.int .i64 (Ms.getD k Mb.nil).o)).setCell ⟨B, k * 2 + 1, none⟩ (.slice (some ⟨N, 0, none⟩) (Ms.getD k Mb.nil).L.length (Ms.getD k Mb.nil).L.length)) := by
  have hb : ∀ g, g ≠ B → ((wr.setCell ⟨B, k * 2, none⟩ (.int .i64 (Ms.getD k Mb.nil).o)).setCell ⟨B, k * 2 + 1, none⟩ (.slice (some ⟨N, 0, none⟩) (Ms.getD k Mb.nil).L.length (Ms.getD k Mb.nil).L.length)).heap[g]? = wr.heap[g]? := fun g hg => by
    rw [Below.heap_setCell _ _ _ _ hg, Below.heap_setCell _ _ _ _ hg]
  obtain ⟨u0, hu0⟩ := h.cells (k * 2) (by omega)
  have hu1 := h.cells (k * 2 + 1) (by omega)
  refine ⟨(h.bel.setCell (Nat.le_refl _) _).setCell (Nat.le_refl _) _, by simpa using h.lt, fun j hj => cell?_setCell_some (cell?_setCell_some (h.cells j hj).choose_spec).choose_spec, fun j hj => by simpa using h.fz j hj, fun j hj => ?_, fun j hj => ?_, fun j hj => ?_, fun j hj => ?_, fun i j hij hj => ?_⟩
  · by_cases e : j = k
    · subst e
      simp only [if_true]
      refine ⟨?_, ?_⟩
      · rw [cell_set_ne (by omega)]; exact cell_set_same ⟨_, hu0⟩
      · exact cell_set_same (cell?_setCell_some hu1.choose_spec)
    · simp only [e, if_false]
      obtain ⟨c1, c2⟩ := h.cell j (by omega)
      exact ⟨by rw [cell_set_ne (by omega), cell_set_ne (by omega)]; exact c1, by rw [cell_set_ne (by omega), cell_set_ne (by omega)]; exact c2⟩
  · by_cases e : j = k
    · subst e
      simp only [if_true]
      exact ViewI.carry hv (fun x q _ => by cases q; exact hb _ (by show N ≠ B; omega))
    · simp only [e, if_false]
      exact ViewI.carry (h.list j (by omega)) (fun x q _ => by cases q; exact hb _ (by have := (h.nb j (by omega)).1; show Ns j ≠ B; omega))
  · by_cases e : j = k
    · subst e
      simp only [if_true]
      exact hr.carry (fun x q _ => by cases q; exact hb _ (by show N ≠ B; omega))
    · simp only [e, if_false]
      exact (h.room j (by omega)).carry (fun x q _ => by cases q; exact hb _ (by have := (h.nb j (by omega)).1; show Ns j ≠ B; omega))
  · by_cases e : j = k
    · simp only [e, if_true]; simpa using hN
    · simp only [e, if_false]; simpa using h.nb j (by omega)
  · by_cases e : j = k
    · have : i ≠ k := by omega
      simp only [e, this, if_true, if_false]
      exact hi i (by omega)
    · have : i ≠ k := by omega
      simp only [e, this, if_false]
      exact h.inc i j hij (by omega)
/-- The list of the copies. -/
def cpy (Ms : List Mb) (Ns : Nat → Nat) : List Mb := (List.range Ms.length).map (fun j => (Ms.getD j Mb.nil).to (Ns j))
theorem cpy_len (Ms : List Mb) (Ns : Nat → Nat) : (cpy Ms Ns).length = Ms.length := by simp [cpy]
theorem cpy_get (Ms : List Mb) (Ns : Nat → Nat) {j : Nat} (h : j < Ms.length) : (cpy Ms Ns).getD j Mb.nil = (Ms.getD j Mb.nil).to (Ns j) := by simp [cpy, List.getD, h]
theorem cpy_d (Ms : List Mb) (Ns : Nat → Nat) : (cpy Ms Ns).map Mb.d = Ms.map Mb.d := by
  refine List.ext_getElem (by simp [cpy]) fun i h1 h2 => ?_
  have hi : i < Ms.length := by simpa using h2
  simp [cpy, Mb.d, Mb.to, List.getD, hi]
theorem MbF.own {B : Nat} {Ms : List Mb} {Ns : Nat → Nat} {w wr : World} (h : MbF B Ms Ns Ms.length w wr) : MbW wr (some ⟨B, 0, none⟩) (cpy Ms Ns) (B :: (List.range Ms.length).map Ns) := by
  have hg : ∀ {j : Nat}, j < (cpy Ms Ns).length → (cpy Ms Ns).getD j Mb.nil = (Ms.getD j Mb.nil).to (Ns j) := fun hj => cpy_get Ms Ns (by rw [cpy_len] at hj; exact hj)
  refine ⟨⟨fun _ => ⟨B, 0, rfl, fun i hi => ?_⟩, fun i hi => ?_, fun i hi e => by rw [hg hi] at e; cases e⟩, fun _ => ⟨B, 0, rfl, fun i hi => ?_⟩, fun i hi => ?_, fun x e _ => ?_, fun i hi x e _ => ?_, fun i hi x y e1 e2 _ => ?_, fun i j hij hj x y e1 e2 _ _ => ?_⟩
  · rw [hg hi, Nat.zero_add]; exact h.cell i (by rw [cpy_len] at hi; exact hi)
  · rw [hg hi]; exact h.list i (by rw [cpy_len] at hi; exact hi)
  · rw [cpy_len] at hi; rw [Nat.zero_add]; exact ⟨h.cells i hi, h.fz i hi⟩
  · rw [hg hi]; exact h.room i (by rw [cpy_len] at hi; exact hi)
  · cases e; simp
  · rw [hg hi] at e
    cases e
    rw [cpy_len] at hi
    simp only [List.mem_cons, List.mem_map, List.mem_range]
    exact .inr ⟨i, hi, rfl⟩
  · rw [hg hi] at e2
    cases e1
    cases e2
    rw [cpy_len] at hi
    have := (h.nb i hi).1
    show Ns i ≠ B
    omega
  · rw [hg (by omega)] at e1
    rw [hg hj] at e2
    cases e1
    cases e2
    rw [cpy_len] at hj
    have := h.inc i j hij hj
    show Ns i ≠ Ns j
    omega

/-- Numbers that rise by one. -/
def seqI (k : Int) (n : Nat) : List Int := (List.range n).map (fun i : Nat => k + (i : Int))
theorem seqI_len (k : Int) (n : Nat) : (seqI k n).length = n := by simp [seqI]
theorem seqI_get (k : Int) {n i : Nat} (h : i < n) : (seqI k n).getD i 0 = k + (i : Int) := by simp [seqI, List.getD, h]
/-- How many marks lie ahead of the one at j. -/
def kTo (Ms : List Mb) : Nat → Nat
  | 0 => 0
  | j + 1 => kTo Ms j + 1 + (Ms.getD j Mb.nil).L.length
theorem kTo_mono (Ms : List Mb) {i j : Nat} (h : i ≤ j) : kTo Ms i ≤ kTo Ms j := by
  induction h with
  | refl => exact Nat.le_refl _
  | step _ ih => exact Nat.le_trans ih (by show _ ≤ kTo Ms _ + 1 + _; omega)
/-- A member that is marked from k on. -/
def Mb.mark (m : Mb) (k : Int) : Mb := ⟨k, m.ad, m.cap, seqI (k + 1) m.L.length⟩
/-- The list of which the first n are marked. -/
def marksM (Ms : List Mb) (k : Int) (n : Nat) : List Mb := (List.range Ms.length).map (fun j => if j < n then (Ms.getD j Mb.nil).mark (k + (kTo Ms j : Int)) else Ms.getD j Mb.nil)
theorem marks_length (Ms : List Mb) (k : Int) (n : Nat) : (marksM Ms k n).length = Ms.length := by simp [marksM]
theorem marks_get (Ms : List Mb) (k : Int) (n : Nat) {j : Nat} (h : j < Ms.length) : (marksM Ms k n).getD j Mb.nil = if j < n then (Ms.getD j Mb.nil).mark (k + (kTo Ms j : Int)) else Ms.getD j Mb.nil := by
  simp [marksM, List.getD, h]
theorem marks_ad (Ms : List Mb) (k : Int) (n : Nat) {j : Nat} (h : j < Ms.length) : ((marksM Ms k n).getD j Mb.nil).ad = (Ms.getD j Mb.nil).ad := by
  rw [marks_get Ms k n h]; split <;> rfl
theorem marks_len (Ms : List Mb) (k : Int) (n : Nat) {j : Nat} (h : j < Ms.length) : ((marksM Ms k n).getD j Mb.nil).L.length = (Ms.getD j Mb.nil).L.length := by
  rw [marks_get Ms k n h]; split
  · exact seqI_len _ _
  · rfl
theorem marks_cap (Ms : List Mb) (k : Int) (n : Nat) {j : Nat} (h : j < Ms.length) : ((marksM Ms k n).getD j Mb.nil).cap = (Ms.getD j Mb.nil).cap := by
  rw [marks_get Ms k n h]; split <;> rfl
theorem marks_zero (Ms : List Mb) (k : Int) : marksM Ms k 0 = Ms := by
  refine List.ext_getElem (by simp [marksM]) fun i h1 h2 => ?_
  simp [marksM, List.getD, h2]
theorem kTo_marks (Ms : List Mb) (k : Int) (n : Nat) : ∀ j, j ≤ Ms.length → kTo (marksM Ms k n) j = kTo Ms j
  | 0, _ => rfl
  | j + 1, h => by
    show kTo (marksM Ms k n) j + 1 + ((marksM Ms k n).getD j Mb.nil).L.length = kTo Ms j + 1 + (Ms.getD j Mb.nil).L.length
    rw [kTo_marks Ms k n j (by omega), marks_len Ms k n (by omega)]
theorem MbW.markStep {wr w2 : World} {b off : Nat} {Ms : List Mb} {k : Int} {n : Nat} {fp : List Nat} (h : MbW wr (some ⟨b, off, none⟩) (marksM Ms k n) fp) (hn : n < Ms.length)
    (hK : w2 = wr.setCell ⟨b, off + n * 2, none⟩ (.int .i64 (k + (kTo Ms n : Int))) ∨ ∃ a, (Ms.getD n Mb.nil).ad = some a ∧ 0 < (Ms.getD n Mb.nil).L.length ∧ (wr.setCell ⟨b, off + n * 2, none⟩ (.int .i64 (k + (kTo Ms n : Int)))).grownBy w2 (some a.block))
    (hv : ViewI w2 (Ms.getD n Mb.nil).ad (Ms.getD n Mb.nil).L.length (fun i => k + (kTo Ms n : Int) + 1 + (i : Int))) (hr : Room w2 (Ms.getD n Mb.nil).ad (Ms.getD n Mb.nil).L.length) :
    MbW w2 (some ⟨b, off, none⟩) (marksM Ms k (n + 1)) fp ∧ KeptF fp wr w2 := by
  have hl := marks_length Ms k n
  have hl' := marks_length Ms k (n + 1)
  obtain ⟨w1, hw1⟩ : ∃ w1, w1 = wr.setCell ⟨b, off + n * 2, none⟩ (.int .i64 (k + (kTo Ms n : Int))) := ⟨_, rfl⟩
  rw [← hw1] at hK
  have s1 : w1.heap.size = wr.heap.size := by rw [hw1]; simp
  have e1 : ∀ g, g ≠ b → w1.heap[g]? = wr.heap[g]? := fun g hg => by rw [hw1]; exact Below.heap_setCell _ _ _ _ hg
  have e2 : ∀ g, g < w1.heap.size → (∀ x, (Ms.getD n Mb.nil).ad = some x → 0 < (Ms.getD n Mb.nil).L.length → x.block ≠ g) → w2.heap[g]? = w1.heap[g]? := fun g hg hne => by
    rcases hK with rfl | ⟨a, e, hp, hgr⟩
    · rfl
    · exact hgr.block g hg (by have := hne a e hp; simp; omega)
  have hblt : b < wr.heap.size := h.view.lt ⟨b, off, none⟩ rfl (by omega)
  have hb2 : w2.heap[b]? = w1.heap[b]? := e2 b (by omega) (fun x e hp => by
    have := h.apart n (by omega) ⟨b, off, none⟩ x rfl (by rw [marks_ad Ms k n hn]; exact e) (by rw [marks_len Ms k n hn]; exact hp)
    exact this)
  obtain ⟨b', off', eb, hrow⟩ := h.view.row (by omega)
  cases eb
  have hnest : ∀ j, j < Ms.length → j ≠ n → ∀ x, (Ms.getD j Mb.nil).ad = some x → 0 < (Ms.getD j Mb.nil).L.length → w2.heap[x.block]? = wr.heap[x.block]? := fun j hj hjn x e hp => by
    have e' : ((marksM Ms k n).getD j Mb.nil).ad = some x := by rw [marks_ad Ms k n hj]; exact e
    have hp' : 0 < ((marksM Ms k n).getD j Mb.nil).L.length := by rw [marks_len Ms k n hj]; exact hp
    have hxb : x.block ≠ b := h.apart j (by omega) ⟨b, off, none⟩ x rfl e' hp'
    have hxl : x.block < wr.heap.size := ViewI.lt (h.view.nest j (by omega)) x e' hp'
    refine (e2 _ (by omega) (fun y ey hpy => ?_)).trans (e1 _ hxb)
    have ey' : ((marksM Ms k n).getD n Mb.nil).ad = some y := by rw [marks_ad Ms k n hn]; exact ey
    have hpy' : 0 < ((marksM Ms k n).getD n Mb.nil).L.length := by rw [marks_len Ms k n hn]; exact hpy
    rcases Nat.lt_or_ge j n with hlt | hge
    · exact (h.aparts j n hlt (by omega) x y e' ey' hp' hpy').symm
    · exact h.aparts n j (by omega) (by omega) y x ey' e' hpy' hp'
  refine ⟨⟨⟨fun _ => ⟨b, off, rfl, fun j hj => ?_⟩, fun j hj => ?_, fun j hj e => ?_⟩, fun _ => ⟨b, off, rfl, fun j hj => ?_⟩, fun j hj => ?_, fun x e hp => h.rowIn x e (by omega), fun j hj x e hp => ?_, fun j hj x y e1' e2' hp => ?_, fun i j hij hj x y e1' e2' hp hp' => ?_⟩, ?_⟩
  · rw [hl'] at hj
    have hc := hrow j (by omega)
    refine MbAt.same (w := w1) ?_ hb2
    by_cases ejn : j = n
    · subst ejn
      rw [marks_get Ms k (j + 1) hj, if_pos (by omega)]
      rw [marks_get Ms k j hj, if_neg (by omega)] at hc
      obtain ⟨c1, c2⟩ := hc
      refine ⟨?_, ?_⟩
      · rw [hw1]; exact cell_set_same ⟨_, c1⟩
      · rw [hw1, cell_set_ne (by omega), c2]
        show _ = some (Value.slice _ (seqI _ _).length _)
        rw [seqI_len]; rfl
    · have eg : (marksM Ms k (n + 1)).getD j Mb.nil = (marksM Ms k n).getD j Mb.nil := by
        rw [marks_get Ms k (n + 1) hj, marks_get Ms k n hj]
        by_cases q : j < n
        · rw [if_pos q, if_pos (by omega)]
        · rw [if_neg q, if_neg (by omega)]
      rw [eg]
      obtain ⟨c1, c2⟩ := hc
      exact ⟨by rw [hw1, cell_set_ne (by omega)]; exact c1, by rw [hw1, cell_set_ne (by omega)]; exact c2⟩
  · rw [hl'] at hj
    by_cases ejn : j = n
    · subst ejn
      rw [marks_get Ms k (j + 1) hj, if_pos (by omega)]
      show ViewI w2 _ (seqI _ _).length _
      rw [seqI_len]
      exact hv.congr (fun i hi => (seqI_get _ hi).symm)
    · have eg : (marksM Ms k (n + 1)).getD j Mb.nil = (marksM Ms k n).getD j Mb.nil := by
        rw [marks_get Ms k (n + 1) hj, marks_get Ms k n hj]
        by_cases q : j < n
        · rw [if_pos q, if_pos (by omega)]
        · rw [if_neg q, if_neg (by omega)]
      rw [eg]
      refine ViewI.carry (h.view.nest j (by omega)) (fun x e hp => ?_)
      rw [marks_ad Ms k n hj] at e
      rw [marks_len Ms k n hj] at hp
      exact hnest j hj ejn x e hp
  · rw [hl'] at hj
    have q := h.view.nil0 j (by omega)
    rw [marks_ad Ms k (n + 1) hj] at e
    rw [marks_ad Ms k n hj, marks_cap Ms k n hj] at q
    rw [marks_cap Ms k (n + 1) hj]
    exact q e
  · rw [hl'] at hj
    obtain ⟨b', off', eb, hc⟩ := h.room (by omega)
    cases eb
    have hcj := hc j (by omega)
    refine ⟨?_, ?_⟩
    · obtain ⟨u, hu⟩ := hcj.1
      obtain ⟨u', hu'⟩ : ∃ u', w1.cell? ⟨b, off + j, none⟩ = some u' := by rw [hw1]; exact cell?_setCell_some hu
      exact ⟨u', (World.cell?_of_block (a := ⟨b, off + j, none⟩) hb2).trans hu'⟩
    · refine (World.frozen?_of_block (a := ⟨b, off + j, none⟩) hb2).trans ?_
      rw [hw1]; simpa using hcj.2
  · rw [hl'] at hj
    rw [marks_ad Ms k (n + 1) hj, marks_len Ms k (n + 1) hj]
    by_cases ejn : j = n
    · subst ejn; exact hr
    · have := h.rooms j (by omega)
      rw [marks_ad Ms k n hj, marks_len Ms k n hj] at this
      exact this.carry (fun x e hp => hnest j hj ejn x e hp)
  · rw [hl'] at hj
    rw [marks_ad Ms k (n + 1) hj] at e
    rw [marks_len Ms k (n + 1) hj] at hp
    exact h.nestIn j (by omega) x (by rw [marks_ad Ms k n hj]; exact e) (by rw [marks_len Ms k n hj]; exact hp)
  · rw [hl'] at hj
    rw [marks_ad Ms k (n + 1) hj] at e2'
    rw [marks_len Ms k (n + 1) hj] at hp
    exact h.apart j (by omega) x y e1' (by rw [marks_ad Ms k n hj]; exact e2') (by rw [marks_len Ms k n hj]; exact hp)
  · rw [hl'] at hj
    rw [marks_ad Ms k (n + 1) (by omega)] at e1'
    rw [marks_ad Ms k (n + 1) hj] at e2'
    rw [marks_len Ms k (n + 1) (by omega)] at hp
    rw [marks_len Ms k (n + 1) hj] at hp'
    exact h.aparts i j hij (by omega) x y (by rw [marks_ad Ms k n (by omega)]; exact e1') (by rw [marks_ad Ms k n hj]; exact e2') (by rw [marks_len Ms k n (by omega)]; exact hp) (by rw [marks_len Ms k n hj]; exact hp')
  · have k1 : KeptF fp wr w1 := by rw [hw1]; exact (KeptF.refl fp wr).set (h.rowIn ⟨b, off, none⟩ rfl (by omega)) _
    rcases hK with rfl | ⟨a, e, hp, hgr⟩
    · exact k1
    · refine k1.trans ((KeptF.of_grown hgr).weak (fun x hx => ?_))
      obtain rfl : x = a.block := by simpa using hx
      exact h.nestIn n (by omega) a (by rw [marks_ad Ms k n hn]; exact e) (by rw [marks_len Ms k n hn]; exact hp)

end Go.Proofs.YtifndemkkaelaaaGreat
