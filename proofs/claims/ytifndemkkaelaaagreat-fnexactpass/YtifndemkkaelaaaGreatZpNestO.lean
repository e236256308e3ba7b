/- Lists of what goes out, each with its load; marks upon them. -/
import Derived.Test.YtifndemkkaelaaaGreatRows
import Derived.WalkKit
import Derived.ProofKit
import Derived.OpenShut
import Derived.ShutString
import Derived.ChangeOld
import Derived.Below
import Derived.Deep.QuietTactic
import Derived.BigQuiet
import Derived.WalkSmall
import Derived.Laws.OwnMore
import Derived.WalkSpells
import Derived.WalkLawsBesides
import Derived.Test.YtifndemkkaelaaaGreatZpNest
namespace Go.Proofs.YtifndemkkaelaaaGreat
open Go.ChangeShapes Go.WideShapes Go.ChangeAt Go.RowKit
open Go.ChangeMaps (open_string shut_string)
set_option linter.unusedVariables false
set_option maxRecDepth 100000

/-- One of the list, and where its own list lies. -/
structure Ob where
  p : Int
  a : Int
  b : Int
  c : Int
  ad : Option Addr
  cap : Nat
  L : List Int
def Ob.nil : Ob := ⟨0, 0, 0, 0, none, 0, []⟩
/-- What it says. -/
def Ob.d (m : Ob) : Int × Int × Int × Int × List Int := (m.p, m.a, m.b, m.c, m.L)
/-- Its 5 cells. -/
def ObAt (w : World) (b q : Nat) (m : Ob) : Prop :=
  w.cell? ⟨b, q, none⟩ = some (.int .i64 m.p) ∧ w.cell? ⟨b, q + 1, none⟩ = some (.int .i64 m.a) ∧ w.cell? ⟨b, q + 2, none⟩ = some (.int .i64 m.b) ∧ w.cell? ⟨b, q + 3, none⟩ = some (.int .i64 m.c) ∧ w.cell? ⟨b, q + 4, none⟩ = some (.slice m.ad m.L.length m.cap)
theorem ObAt.same {w w' : World} {b q : Nat} {m : Ob} (h : ObAt w b q m) (e : w'.heap[b]? = w.heap[b]?) : ObAt w' b q m :=
  ⟨(World.cell?_of_block (a := ⟨b, q, none⟩) e).trans h.1, (World.cell?_of_block (a := ⟨b, q + 1, none⟩) e).trans h.2.1, (World.cell?_of_block (a := ⟨b, q + 2, none⟩) e).trans h.2.2.1, (World.cell?_of_block (a := ⟨b, q + 3, none⟩) e).trans h.2.2.2.1, (World.cell?_of_block (a := ⟨b, q + 4, none⟩) e).trans h.2.2.2.2⟩
/-- Its list. -/
def ObL (w : World) (m : Ob) : Prop := View w m.ad m.L.length (fun i => m.L.getD i 0)
/-- The slice at 'ad' reads as the list Ms. -/
structure ObV (w : World) (ad : Option Addr) (Ms : List Ob) : Prop where
  row : 0 < Ms.length → ∃ b off, ad = some ⟨b, off, none⟩ ∧ ∀ i, i < Ms.length → ObAt w b (off + i * 5) (Ms.getD i Ob.nil)
  nest : ∀ i, i < Ms.length → ObL w (Ms.getD i Ob.nil)
  nil0 : ∀ i, i < Ms.length → (Ms.getD i Ob.nil).ad = none → (Ms.getD i Ob.nil).cap = 0
theorem ObV.lt {w : World} {ad : Option Addr} {Ms : List Ob} (h : ObV w ad Ms) (x : Addr) (e : ad = some x) (hp : 0 < Ms.length) : x.block < w.heap.size := by
  obtain ⟨b, off, e', hc⟩ := h.row hp
  rw [e] at e'
  cases e'
  exact World.block_lt_of_cell? w _ (hc 0 hp).1
theorem ObV.carry {w w' : World} {ad : Option Addr} {Ms : List Ob} (h : ObV w ad Ms) (h1 : ∀ x, ad = some x → 0 < Ms.length → w'.heap[x.block]? = w.heap[x.block]?) (h2 : ∀ i, i < Ms.length → ∀ x, (Ms.getD i Ob.nil).ad = some x → 0 < (Ms.getD i Ob.nil).L.length → w'.heap[x.block]? = w.heap[x.block]?) : ObV w' ad Ms := by
  refine ⟨fun hp => ?_, fun i hi => View.carry (h.nest i hi) (fun x e hp => h2 i hi x e hp), h.nil0⟩
  obtain ⟨b, off, e, hc⟩ := h.row hp
  exact ⟨b, off, e, fun i hi => (hc i hi).same (h1 _ e hp)⟩
theorem ObV.below {w w' : World} {ad : Option Addr} {Ms : List Ob} {B : Nat} (h : ObV w ad Ms) (k : Below B w w') (hB : w.heap.size ≤ B) : ObV w' ad Ms :=
  h.carry (fun x e hp => k.block _ (Nat.lt_of_lt_of_le (h.lt x e hp) hB)) (fun i hi x e hp => k.block _ (Nat.lt_of_lt_of_le (View.lt (h.nest i hi) x e hp) hB))
/-- Its memory is its own: where it lies, that it may be written, that no two of its rows are one. -/
structure ObW (w : World) (ad : Option Addr) (Ms : List Ob) (fp : List Nat) : Prop where
  view : ObV w ad Ms
  room : Room w ad (Ms.length * 5)
  rooms : ∀ i, i < Ms.length → Room w (Ms.getD i Ob.nil).ad (Ms.getD i Ob.nil).L.length
  rowIn : ∀ x, ad = some x → 0 < Ms.length → x.block ∈ fp
  nestIn : ∀ i, i < Ms.length → ∀ x, (Ms.getD i Ob.nil).ad = some x → 0 < (Ms.getD i Ob.nil).L.length → x.block ∈ fp
  apart : ∀ i, i < Ms.length → ∀ x y, ad = some x → (Ms.getD i Ob.nil).ad = some y → 0 < (Ms.getD i Ob.nil).L.length → y.block ≠ x.block
  aparts : ∀ i j, i < j → j < Ms.length → ∀ x y, (Ms.getD i Ob.nil).ad = some x → (Ms.getD j Ob.nil).ad = some y → 0 < (Ms.getD i Ob.nil).L.length → 0 < (Ms.getD j Ob.nil).L.length → x.block ≠ y.block
theorem ObW.kept {w w' : World} {ad : Option Addr} {Ms : List Ob} {fp fq : List Nat} (h : ObW w ad Ms fp) (k : KeptF fq w w') (hd : ∀ x ∈ fp, x ∉ fq) : ObW w' ad Ms fp := by
  have e1 : ∀ x, ad = some x → 0 < Ms.length → w'.heap[x.block]? = w.heap[x.block]? := fun x e hp => k.block _ (h.view.lt x e hp) (hd _ (h.rowIn x e hp))
  have e2 : ∀ i, i < Ms.length → ∀ x, (Ms.getD i Ob.nil).ad = some x → 0 < (Ms.getD i Ob.nil).L.length → w'.heap[x.block]? = w.heap[x.block]? := fun i hi x e hp => k.block _ (View.lt (h.view.nest i hi) x e hp) (hd _ (h.nestIn i hi x e hp))
  exact ⟨h.view.carry e1 e2, h.room.carry (fun x e hp => e1 x e (by omega)), fun i hi => (h.rooms i hi).carry (fun x e hp => e2 i hi x e hp), h.rowIn, h.nestIn, h.apart, h.aparts⟩
theorem ObW.below {w w' : World} {ad : Option Addr} {Ms : List Ob} {fp : List Nat} {B : Nat} (h : ObW w ad Ms fp) (k : Below B w w') (hB : w.heap.size ≤ B) : ObW w' ad Ms fp := by
  have e1 : ∀ x, ad = some x → 0 < Ms.length → w'.heap[x.block]? = w.heap[x.block]? := fun x e hp => k.block _ (Nat.lt_of_lt_of_le (h.view.lt x e hp) hB)
  have e2 : ∀ i, i < Ms.length → ∀ x, (Ms.getD i Ob.nil).ad = some x → 0 < (Ms.getD i Ob.nil).L.length → w'.heap[x.block]? = w.heap[x.block]? := fun i hi x e hp => k.block _ (Nat.lt_of_lt_of_le (View.lt (h.view.nest i hi) x e hp) hB)
  exact ⟨h.view.carry e1 e2, h.room.carry (fun x e hp => e1 x e (by omega)), fun i hi => (h.rooms i hi).carry (fun x e hp => e2 i hi x e hp), h.rowIn, h.nestIn, h.apart, h.aparts⟩

def seqOb (k : Int) (n : Nat) : List Int := (List.range n).map (fun i : Nat => (k + (i : Int)) % 256)
theorem seqOb_len (k : Int) (n : Nat) : (seqOb k n).length = n := by simp [seqOb]
theorem seqOb_get (k : Int) {n i : Nat} (h : i < n) : (seqOb k n).getD i 0 = (k + (i : Int)) % 256 := by simp [seqOb, List.getD, h]
/-- How many marks lie ahead of the one at j. -/
def kToOb (Ms : List Ob) : Nat → Nat
  | 0 => 0
  | j + 1 => kToOb Ms j + 4 + (Ms.getD j Ob.nil).L.length
theorem kToOb_mono (Ms : List Ob) {i j : Nat} (h : i ≤ j) : kToOb Ms i ≤ kToOb Ms j := by
  induction h with
  | refl => exact Nat.le_refl _
  | step _ ih => exact Nat.le_trans ih (by show _ ≤ kToOb Ms _ + 4 + _; omega)
def Ob.mark (m : Ob) (k : Int) : Ob := ⟨k, k + 1, k + 2, k + 3, m.ad, m.cap, seqOb (k + 4) m.L.length⟩
def marksOb (Ms : List Ob) (k : Int) (n : Nat) : List Ob := (List.range Ms.length).map (fun j => if j < n then (Ms.getD j Ob.nil).mark (k + (kToOb Ms j : Int)) else Ms.getD j Ob.nil)
theorem marksOb_length (Ms : List Ob) (k : Int) (n : Nat) : (marksOb Ms k n).length = Ms.length := by simp [marksOb]
theorem marksOb_get (Ms : List Ob) (k : Int) (n : Nat) {j : Nat} (h : j < Ms.length) : (marksOb Ms k n).getD j Ob.nil = if j < n then (Ms.getD j Ob.nil).mark (k + (kToOb Ms j : Int)) else Ms.getD j Ob.nil := by
  simp [marksOb, List.getD, h]
theorem marksOb_ad (Ms : List Ob) (k : Int) (n : Nat) {j : Nat} (h : j < Ms.length) : ((marksOb Ms k n).getD j Ob.nil).ad = (Ms.getD j Ob.nil).ad := by
  rw [marksOb_get Ms k n h]; split <;> rfl
theorem marksOb_cap (Ms : List Ob) (k : Int) (n : Nat) {j : Nat} (h : j < Ms.length) : ((marksOb Ms k n).getD j Ob.nil).cap = (Ms.getD j Ob.nil).cap := by
  rw [marksOb_get Ms k n h]; split <;> rfl
theorem marksOb_len (Ms : List Ob) (k : Int) (n : Nat) {j : Nat} (h : j < Ms.length) : ((marksOb Ms k n).getD j Ob.nil).L.length = (Ms.getD j Ob.nil).L.length := by
  rw [marksOb_get Ms k n h]; split
  · exact seqOb_len _ _
  · rfl
theorem marksOb_zero (Ms : List Ob) (k : Int) : marksOb Ms k 0 = Ms := by
  refine List.ext_getElem (by simp [marksOb]) fun i h1 h2 => ?_
  simp [marksOb, List.getD, h2]
theorem kToOb_marks (Ms : List Ob) (k : Int) (n : Nat) : ∀ j, j ≤ Ms.length → kToOb (marksOb Ms k n) j = kToOb Ms j
  | 0, _ => rfl
  | j + 1, h => by
    show kToOb (marksOb Ms k n) j + 4 + ((marksOb Ms k n).getD j Ob.nil).L.length = kToOb Ms j + 4 + (Ms.getD j Ob.nil).L.length
    rw [kToOb_marks Ms k n j (by omega), marksOb_len Ms k n (by omega)]
theorem ObW.markStep {wr w2 : World} {b off : Nat} {Ms : List Ob} {k : Int} {n : Nat} {fp : List Nat} (h : ObW wr (some ⟨b, off, none⟩) (marksOb Ms k n) fp) (hn : n < Ms.length)
    (hK : w2 = ((((wr.setCell ⟨b, off + n * 5, none⟩ (.int .i64 (k + (kToOb Ms n : Int)))).setCell ⟨b, off + n * 5 + 1, none⟩ (.int .i64 (k + (kToOb Ms n : Int) + 1))).setCell ⟨b, off + n * 5 + 2, none⟩ (.int .i64 (k + (kToOb Ms n : Int) + 2))).setCell ⟨b, off + n * 5 + 3, none⟩ (.int .i64 (k + (kToOb Ms n : Int) + 3))) ∨ ∃ a, (Ms.getD n Ob.nil).ad = some a ∧ 0 < (Ms.getD n Ob.nil).L.length ∧ (((((wr.setCell ⟨b, off + n * 5, none⟩ (.int .i64 (k + (kToOb Ms n : Int)))).setCell ⟨b, off + n * 5 + 1, none⟩ (.int .i64 (k + (kToOb Ms n : Int) + 1))).setCell ⟨b, off + n * 5 + 2, none⟩ (.int .i64 (k + (kToOb Ms n : Int) + 2))).setCell ⟨b, off + n * 5 + 3, none⟩ (.int .i64 (k + (kToOb Ms n : Int) + 3)))).grownBy w2 (some a.block))
    (hv : View w2 (Ms.getD n Ob.nil).ad (Ms.getD n Ob.nil).L.length (fun i => (k + (kToOb Ms n : Int) + 4 + (i : Int)) % 256)) (hr : Room w2 (Ms.getD n Ob.nil).ad (Ms.getD n Ob.nil).L.length) :
    ObW w2 (some ⟨b, off, none⟩) (marksOb Ms k (n + 1)) fp ∧ KeptF fp wr w2 := by
  have hl := marksOb_length Ms k n
  have hl' := marksOb_length Ms k (n + 1)
  obtain ⟨w1, hw1⟩ : ∃ w1, w1 = ((((wr.setCell ⟨b, off + n * 5, none⟩ (.int .i64 (k + (kToOb Ms n : Int)))).setCell ⟨b, off + n * 5 + 1, none⟩ (.int .i64 (k + (kToOb Ms n : Int) + 1))).setCell ⟨b, off + n * 5 + 2, none⟩ (.int .i64 (k + (kToOb Ms n : Int) + 2))).setCell ⟨b, off + n * 5 + 3, none⟩ (.int .i64 (k + (kToOb Ms n : Int) + 3))) := ⟨_, rfl⟩
  rw [← hw1] at hK
  have s1 : w1.heap.size = wr.heap.size := by rw [hw1]; simp
  have e1 : ∀ g, g ≠ b → w1.heap[g]? = wr.heap[g]? := fun g hg => by rw [hw1, Below.heap_setCell _ _ _ _ hg, Below.heap_setCell _ _ _ _ hg, Below.heap_setCell _ _ _ _ hg, Below.heap_setCell _ _ _ _ hg]
  have e2 : ∀ g, g < w1.heap.size → (∀ x, (Ms.getD n Ob.nil).ad = some x → 0 < (Ms.getD n Ob.nil).L.length → x.block ≠ g) → w2.heap[g]? = w1.heap[g]? := fun g hg hne => by
    rcases hK with rfl | ⟨a, e, hp, hgr⟩
    · rfl
    · exact hgr.block g hg (by have := hne a e hp; simp; omega)
  have hblt : b < wr.heap.size := h.view.lt ⟨b, off, none⟩ rfl (by omega)
  have hb2 : w2.heap[b]? = w1.heap[b]? := e2 b (by omega) (fun x e hp => by
    have := h.apart n (by omega) ⟨b, off, none⟩ x rfl (by rw [marksOb_ad Ms k n hn]; exact e) (by rw [marksOb_len Ms k n hn]; exact hp)
    exact this)
  obtain ⟨b', off', eb, hrow⟩ := h.view.row (by omega)
  cases eb
  have hnest : ∀ j, j < Ms.length → j ≠ n → ∀ x, (Ms.getD j Ob.nil).ad = some x → 0 < (Ms.getD j Ob.nil).L.length → w2.heap[x.block]? = wr.heap[x.block]? := fun j hj hjn x e hp => by
    have e' : ((marksOb Ms k n).getD j Ob.nil).ad = some x := by rw [marksOb_ad Ms k n hj]; exact e
    have hp' : 0 < ((marksOb Ms k n).getD j Ob.nil).L.length := by rw [marksOb_len Ms k n hj]; exact hp
    have hxb : x.block ≠ b := h.apart j (by omega) ⟨b, off, none⟩ x rfl e' hp'
    have hxl : x.block < wr.heap.size := View.lt (h.view.nest j (by omega)) x e' hp'
    refine (e2 _ (by omega) (fun y ey hpy => ?_)).trans (e1 _ hxb)
    have ey' : ((marksOb Ms k n).getD n Ob.nil).ad = some y := by rw [marksOb_ad Ms k n hn]; exact ey
    have hpy' : 0 < ((marksOb Ms k n).getD n Ob.nil).L.length := by rw [marksOb_len Ms k n hn]; exact hpy
    rcases Nat.lt_or_ge j n with hlt | hge
    · exact (h.aparts j n hlt (by omega) x y e' ey' hp' hpy').symm
    · exact h.aparts n j (by omega) (by omega) y x ey' e' hpy' hp'
  have hoff : ∀ i, (∀ d, d < 4 → i ≠ off + n * 5 + d) → w1.cell? ⟨b, i, none⟩ = wr.cell? ⟨b, i, none⟩ := fun i hi => by
    have q0 := hi 0 (by omega)
    rw [Nat.add_zero] at q0
    have q1 := hi 1 (by omega)
    have q2 := hi 2 (by omega)
    have q3 := hi 3 (by omega)
    rw [hw1, cell_set_ne q3, cell_set_ne q2, cell_set_ne q1, cell_set_ne q0]
  have eg0 : ∀ j, j < Ms.length → j ≠ n → (marksOb Ms k (n + 1)).getD j Ob.nil = (marksOb Ms k n).getD j Ob.nil := fun j hj ejn => by
    rw [marksOb_get Ms k (n + 1) hj, marksOb_get Ms k n hj]
    by_cases q : j < n
    · rw [if_pos q, if_pos (by omega)]
    · rw [if_neg q, if_neg (by omega)]
  refine ⟨⟨⟨fun _ => ⟨b, off, rfl, fun j hj => ?_⟩, fun j hj => ?_, fun j hj e => ?_⟩, fun _ => ⟨b, off, rfl, fun j hj => ?_⟩, fun j hj => ?_, fun x e hp => h.rowIn x e (by omega), fun j hj x e hp => ?_, fun j hj x y e1' e2' hp => ?_, fun i j hij hj x y e1' e2' hp hp' => ?_⟩, ?_⟩
  · rw [hl'] at hj
    have hc := hrow j (by omega)
    refine ObAt.same (w := w1) ?_ hb2
    by_cases ejn : j = n
    · subst ejn
      rw [marksOb_get Ms k (j + 1) hj, if_pos (by omega)]
      rw [marksOb_get Ms k j hj, if_neg (by omega)] at hc
      obtain ⟨c0, c1, c2, c3, c4⟩ := hc
      refine ⟨?_, ?_, ?_, ?_, ?_⟩
      · rw [hw1, cell_set_ne (by omega), cell_set_ne (by omega), cell_set_ne (by omega)]; exact cell_set_same ⟨_, c0⟩
      · rw [hw1, cell_set_ne (by omega), cell_set_ne (by omega)]; exact cell_set_same ⟨_, (cell_set_ne (by omega)).trans (c1)⟩
      · rw [hw1, cell_set_ne (by omega)]; exact cell_set_same ⟨_, (cell_set_ne (by omega)).trans ((cell_set_ne (by omega)).trans (c2))⟩
      · rw [hw1]; exact cell_set_same ⟨_, (cell_set_ne (by omega)).trans ((cell_set_ne (by omega)).trans ((cell_set_ne (by omega)).trans (c3)))⟩
      · rw [hoff _ (fun d hd => by omega), c4]
        show _ = some (Value.slice _ (seqOb _ _).length _)
        rw [seqOb_len]; rfl
    · rw [eg0 j hj ejn]
      obtain ⟨c0, c1, c2, c3, c4⟩ := hc
      have hfar : ∀ e d, e < 5 → d < 4 → off + j * 5 + e ≠ off + n * 5 + d := fun e d he hd => by
        rcases Nat.lt_or_ge j n with q | q
        · have : j * 5 + 5 ≤ n * 5 := by rw [← Nat.succ_mul]; exact Nat.mul_le_mul_right _ q
          omega
        · have : n * 5 + 5 ≤ j * 5 := by rw [← Nat.succ_mul]; exact Nat.mul_le_mul_right _ (by omega)
          omega
      exact ⟨(hoff _ (fun d hd => hfar 0 d (by omega) hd)).trans c0, (hoff _ (fun d hd => hfar 1 d (by omega) hd)).trans c1, (hoff _ (fun d hd => hfar 2 d (by omega) hd)).trans c2, (hoff _ (fun d hd => hfar 3 d (by omega) hd)).trans c3, (hoff _ (fun d hd => hfar 4 d (by omega) hd)).trans c4⟩
  · rw [hl'] at hj
    by_cases ejn : j = n
    · subst ejn
      rw [marksOb_get Ms k (j + 1) hj, if_pos (by omega)]
      show View w2 _ (seqOb _ _).length _
      rw [seqOb_len]
      exact hv.congr (fun i hi => (seqOb_get _ hi).symm)
    · rw [eg0 j hj ejn]
      refine View.carry (h.view.nest j (by omega)) (fun x e hp => ?_)
      rw [marksOb_ad Ms k n hj] at e
      rw [marksOb_len Ms k n hj] at hp
      exact hnest j hj ejn x e hp
  · rw [hl'] at hj
    have q := h.view.nil0 j (by omega)
    rw [marksOb_ad Ms k (n + 1) hj] at e
    rw [marksOb_ad Ms k n hj, marksOb_cap Ms k n hj] at q
    rw [marksOb_cap Ms k (n + 1) hj]
    exact q e
  · rw [hl'] at hj
    obtain ⟨b', off', eb, hc⟩ := h.room (by omega)
    cases eb
    have hcj := hc j (by omega)
    refine ⟨?_, ?_⟩
    · obtain ⟨u, hu⟩ := hcj.1
      obtain ⟨u', hu'⟩ : ∃ u', w1.cell? ⟨b, off + j, none⟩ = some u' := by rw [hw1]; exact cell?_setCell_some (cell?_setCell_some (cell?_setCell_some (cell?_setCell_some hu).choose_spec).choose_spec).choose_spec
      exact ⟨u', (World.cell?_of_block (a := ⟨b, off + j, none⟩) hb2).trans hu'⟩
    · refine (World.frozen?_of_block (a := ⟨b, off + j, none⟩) hb2).trans ?_
      rw [hw1]; simpa using hcj.2
  · rw [hl'] at hj
    rw [marksOb_ad Ms k (n + 1) hj, marksOb_len Ms k (n + 1) hj]
    by_cases ejn : j = n
    · subst ejn; exact hr
    · have := h.rooms j (by omega)
      rw [marksOb_ad Ms k n hj, marksOb_len Ms k n hj] at this
      exact this.carry (fun x e hp => hnest j hj ejn x e hp)
  · rw [hl'] at hj
    rw [marksOb_ad Ms k (n + 1) hj] at e
    rw [marksOb_len Ms k (n + 1) hj] at hp
    exact h.nestIn j (by omega) x (by rw [marksOb_ad Ms k n hj]; exact e) (by rw [marksOb_len Ms k n hj]; exact hp)
  · rw [hl'] at hj
    rw [marksOb_ad Ms k (n + 1) hj] at e2'
    rw [marksOb_len Ms k (n + 1) hj] at hp
    exact h.apart j (by omega) x y e1' (by rw [marksOb_ad Ms k n hj]; exact e2') (by rw [marksOb_len Ms k n hj]; exact hp)
  · rw [hl'] at hj
    rw [marksOb_ad Ms k (n + 1) (by omega)] at e1'
    rw [marksOb_ad Ms k (n + 1) hj] at e2'
    rw [marksOb_len Ms k (n + 1) (by omega)] at hp
    rw [marksOb_len Ms k (n + 1) hj] at hp'
    exact h.aparts i j hij (by omega) x y (by rw [marksOb_ad Ms k n (by omega)]; exact e1') (by rw [marksOb_ad Ms k n hj]; exact e2') (by rw [marksOb_len Ms k n (by omega)]; exact hp) (by rw [marksOb_len Ms k n hj]; exact hp')
  · have k1 : KeptF fp wr w1 := by rw [hw1]; exact (((((KeptF.refl fp wr).set (h.rowIn ⟨b, off, none⟩ rfl (by omega)) _).set (h.rowIn ⟨b, off, none⟩ rfl (by omega)) _).set (h.rowIn ⟨b, off, none⟩ rfl (by omega)) _).set (h.rowIn ⟨b, off, none⟩ rfl (by omega)) _)
    rcases hK with rfl | ⟨a, e, hp, hgr⟩
    · exact k1
    · refine k1.trans ((KeptF.of_grown hgr).weak (fun x hx => ?_))
      obtain rfl : x = a.block := by simpa using hx
      exact h.nestIn n (by omega) a (by rw [marksOb_ad Ms k n hn]; exact e) (by rw [marksOb_len Ms k n hn]; exact hp)
theorem marksOb_held (Ms : List Ob) (k0 : Int) : ∀ i, i < (marksOb Ms k0 Ms.length).length → (marksOb Ms k0 Ms.length).getD i Ob.nil = ((marksOb Ms k0 Ms.length).getD i Ob.nil).mark (k0 + (kToOb (marksOb Ms k0 Ms.length) i : Int)) := fun i hi => by
  rw [marksOb_length] at hi
  rw [kToOb_marks Ms k0 _ i (by omega), marksOb_get Ms k0 _ hi, if_pos hi]
  unfold Ob.mark
  rw [seqOb_len]

end Go.Proofs.YtifndemkkaelaaaGreat
