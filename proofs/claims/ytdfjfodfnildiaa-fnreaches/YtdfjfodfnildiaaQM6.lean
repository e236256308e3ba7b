/- Lists of ports: marked. Lists of bridges in memory. What is NetOk, in plain lists. Bridges: how they come in, copied, compared. Bridges: marked. Lists of bridges: how they come in. Lists of bridges, copied. Rings and spans, in plain lists. Arrays of five held against each other. -/
import Derived.Test.YtdfjfodfnildiaaRows
import Derived.WalkKit
import Derived.ProofKit
import Derived.OpenShut
import Derived.ShutString
import Derived.ChangeOld
import Derived.Below
import Derived.Deep.QuietTactic
import Derived.BigQuiet
import Derived.WalkSmall
import Derived.Laws.OwnMore
import Derived.WalkSpells
import Derived.WalkLawsBesides
import Derived.Test.YtdfjfodfnildiaaQM5
import Derived.Test.YtdfjfodfnildiaaQM1
import Derived.Lib.SmallJoins
import Derived.Deep.Slices
import Derived.Test.YtdfjfodfnildiaaQM2
import Derived.Deep.Cut
import Derived.ChangeKeysEq
namespace Go.Proofs.Ytdfjfodfnildiaa
open Go.ChangeShapes Go.WideShapes Go.ChangeAt Go.RowKit
open Go.ChangeMaps (open_string shut_string)
set_option linter.unusedVariables false
set_option maxRecDepth 100000

end Go.Proofs.Ytdfjfodfnildiaa
namespace Go.Proofs.Ytdfjfodfnildiaa
open Go.ChangeShapes Go.WideShapes Go.ChangeAt Go.RowKit
open Go.ChangeMaps (open_string shut_string)
set_option linter.unusedVariables false
set_option maxRecDepth 100000

structure Bg where
  id : Int
  L : List Pt
def Bg.nil : Bg := ⟨0, []⟩
structure Bd where
  id : Int
  ad : Option Addr
  cap : Nat
  L : List Pt
def Bd.nil : Bd := ⟨0, none, 0, []⟩
def Bd.d (m : Bd) : Bg := ⟨m.id, m.L⟩
def Bd.v (m : Bd) : Value := .slice m.ad m.L.length m.cap
def bdEnc (x : Bd) : List Value := [.int .i64 x.id, .slice x.ad x.L.length x.cap]
theorem bdEnc_len (x : Bd) : (bdEnc x).length = 2 := rfl
theorem bdEnc_ones (L : List Bd) : ∀ u ∈ fcells bdEnc L, u.oneCell' = true := by
  induction L with
  | nil => intro u h; cases h
  | cons x L ih =>
    intro u h
    simp only [fcells, bdEnc, List.mem_append, List.mem_cons, List.not_mem_nil, or_false] at h
    rcases h with (rfl | rfl) | h
    · rfl
    · rfl
    · exact ih u h
structure BdAtO (w : World) (b o : Nat) (x : Bd) : Prop where
  c0 : w.cell? ⟨b, o, none⟩ = some (.int .i64 x.id)
  c1 : w.cell? ⟨b, o + 1, none⟩ = some (.slice x.ad x.L.length x.cap)
theorem bdAtO_of {w : World} {b o : Nat} {x : Bd} (h : ∀ j v, (bdEnc x)[j]? = some v → w.cell? ⟨b, o + j, none⟩ = some v) : BdAtO w b o x := ⟨h 0 _ rfl, h 1 _ rfl⟩
theorem bdPut (w : World) (g o : Nat) (x : Bd) : putAll w g o (bdEnc x) = ((w.setCell ⟨g, o, none⟩ (.int .i64 x.id)).setCell ⟨g, o + 1, none⟩ (.slice x.ad x.L.length x.cap)) := rfl
theorem bd_get (Bs : List Bd) (i : Nat) : (Bs.map Bd.d).getD i Bg.nil = (Bs.getD i Bd.nil).d := by
  simp only [List.getD, List.getElem?_map]
  cases Bs[i]? <;> rfl
structure NV (w : World) (ad : Option Addr) (Bs : List Bd) : Prop where
  row : FView bdEnc w ad Bs
  nest : ∀ i, i < Bs.length → FView ptEnc w (Bs.getD i Bd.nil).ad (Bs.getD i Bd.nil).L
  nil0 : ∀ i, i < Bs.length → (Bs.getD i Bd.nil).ad = none → (Bs.getD i Bd.nil).cap = 0
theorem NV.below {w w' : World} {ad : Option Addr} {Bs : List Bd} {B : Nat} (h : NV w ad Bs) (k : Below B w w') (hB : w.heap.size ≤ B) : NV w' ad Bs :=
  ⟨h.row.below k (fun a e p => Nat.lt_of_lt_of_le (h.row.lt bdEnc_len (by omega) a e p) hB), fun i hi => (h.nest i hi).below k (fun a e p => Nat.lt_of_lt_of_le ((h.nest i hi).lt ptEnc_len (by omega) a e p) hB), h.nil0⟩
theorem NV.at_ {w : World} {b off : Nat} {Bs : List Bd} (h : NV w (some ⟨b, off, none⟩) Bs) {i : Nat} (hi : i < Bs.length) : BdAtO w b (off + i * 2) (Bs.getD i Bd.nil) := bdAtO_of (h.row.at_ bdEnc_len Bd.nil hi)
theorem NV.ad_ {w : World} {ad : Option Addr} {Bs : List Bd} (h : NV w ad Bs) (hp : 0 < Bs.length) : ∃ b off, ad = some ⟨b, off, none⟩ := by
  obtain ⟨b, off, e, _⟩ := h.row hp
  exact ⟨b, off, e⟩
structure NOwn (lo hi : Nat) (w : World) (v : Value) (Bs : List Bd) : Prop where
  row : FOwn bdEnc 2 71 lo w v Bs
  nest : ∀ i, i < Bs.length → FOwn ptEnc 11 68 lo w (Bs.getD i Bd.nil).v (Bs.getD i Bd.nil).L
  rhi : ∀ g, v.ownBlock = some g → g < hi
  nhi : ∀ i, i < Bs.length → ∀ g, (Bs.getD i Bd.nil).v.ownBlock = some g → g < hi
  apart : ∀ i, i < Bs.length → ∀ g h, v.ownBlock = some g → (Bs.getD i Bd.nil).v.ownBlock = some h → g ≠ h
  aparts : ∀ i j, i < j → j < Bs.length → ∀ g h, (Bs.getD i Bd.nil).v.ownBlock = some g → (Bs.getD j Bd.nil).v.ownBlock = some h → g ≠ h
theorem own_none {X : Type} {enc : X → List Value} {n : Nat} {T : TypeId} {base : Nat} {w : World} {len cap : Nat} {L : List X} (h : FOwn enc n T base w (.slice none len cap) L) : cap = 0 := by
  rcases h.2 with ⟨q, _⟩ | ⟨g, c, cur, q, _⟩
  · simp only [Value.slice.injEq] at q
    exact q.2.2
  · simp at q
theorem NOwn.view {lo hi : Nat} {w : World} {ad : Option Addr} {len cap : Nat} {Bs : List Bd} (h : NOwn lo hi w (.slice ad len cap) Bs) : len = Bs.length ∧ NV w ad Bs := by
  refine ⟨h.row.view.1, h.row.view.2, fun i hi => (h.nest i hi).view.2, fun i hi e => ?_⟩
  have := h.nest i hi
  unfold Bd.v at this
  rw [e] at this
  exact own_none this
theorem NOwn.keep {lo hi : Nat} {w w' : World} {v : Value} {Bs : List Bd} (h : NOwn lo hi w v Bs) (k : ∀ g, lo ≤ g → g < hi → w'.heap[g]? = w.heap[g]?) : NOwn lo hi w' v Bs :=
  ⟨h.row.keep (fun g e => k g (h.row.lt g e).1 (h.rhi g e)), fun i hi => (h.nest i hi).keep (fun g e => k g ((h.nest i hi).lt g e).1 (h.nhi i hi g e)), h.rhi, h.nhi, h.apart, h.aparts⟩
theorem NOwn.wide {lo hi lo' hi' : Nat} {w : World} {v : Value} {Bs : List Bd} (h : NOwn lo hi w v Bs) (h1 : lo' ≤ lo) (h2 : hi ≤ hi') : NOwn lo' hi' w v Bs :=
  ⟨h.row.base h1, fun i hi => (h.nest i hi).base h1, fun g e => Nat.lt_of_lt_of_le (h.rhi g e) h2, fun i hi g e => Nat.lt_of_lt_of_le (h.nhi i hi g e) h2, h.apart, h.aparts⟩
theorem NOwn.below {lo hi B : Nat} {w w' : World} {v : Value} {Bs : List Bd} (h : NOwn lo hi w v Bs) (k : Below B w w') (hB : hi ≤ B) : NOwn lo hi w' v Bs := h.keep fun g _ hg => k.block _ (by omega)

end Go.Proofs.Ytdfjfodfnildiaa
namespace Go.Proofs.Ytdfjfodfnildiaa
open Go.ChangeShapes Go.WideShapes Go.ChangeAt Go.RowKit
open Go.ChangeMaps (open_string shut_string)
set_option linter.unusedVariables false
set_option maxRecDepth 100000

def pt (B : List Bg) (i x : Nat) : Pt := (B.getD i Bg.nil).L.getD x Pt.nil
def otherL : List Lk → Int → Int → Option (Int × Int)
  | [], _, _ => none
  | l :: K, a, p => if l.a = a ∧ l.p = p then some (l.b, l.q) else if l.b = a ∧ l.q = p then some (l.a, l.p) else otherL K a p
def onceL : List Lk → Int → Int → Int
  | [], _, _ => 0
  | l :: K, a, p => (if l.a = a ∧ l.p = p then 1 else 0) + (if l.b = a ∧ l.q = p then 1 else 0) + onceL K a p
theorem once_nonneg (K : List Lk) (a p : Int) : 0 ≤ onceL K a p := by
  induction K with
  | nil => simp [onceL]
  | cons l K ih => unfold onceL; split <;> split <;> omega
theorem once_most (K : List Lk) (a p : Int) : onceL K a p ≤ 2 * (K.length : Int) := by
  induction K with
  | nil => simp [onceL]
  | cons l K ih => unfold onceL; simp only [List.length_cons]; split <;> split <;> omega
theorem once_app (K M : List Lk) (a p : Int) : onceL (K ++ M) a p = onceL K a p + onceL M a p := by
  induction K with
  | nil => simp [onceL]
  | cons l K ih => simp only [List.cons_append, onceL, ih]; omega
theorem take_one {X : Type} (K : List X) (d : X) {j : Nat} (h : j < K.length) : K.take (j + 1) = K.take j ++ [K.getD j d] := by
  rw [List.take_add_one, List.getElem?_eq_getElem h]
  simp [List.getD, h]
theorem once_take (K : List Lk) (a p : Int) {j : Nat} (h : j < K.length) : onceL (K.take (j + 1)) a p = onceL (K.take j) a p + ((if (K.getD j Lk.nil).a = a ∧ (K.getD j Lk.nil).p = p then 1 else 0) + (if (K.getD j Lk.nil).b = a ∧ (K.getD j Lk.nil).q = p then 1 else 0)) := by
  rw [take_one K Lk.nil h, once_app]
  simp [onceL]
theorem once_in {K : List Lk} {l : Lk} (h : l ∈ K) : 1 ≤ onceL K l.a l.p ∧ 1 ≤ onceL K l.b l.q := by
  induction K with
  | nil => cases h
  | cons x K ih =>
    unfold onceL
    rcases List.mem_cons.1 h with rfl | h
    · have h1 := once_nonneg K l.a l.p
      have h2 := once_nonneg K l.b l.q
      constructor
      · rw [if_pos ⟨rfl, rfl⟩]; split <;> omega
      · rw [if_pos (show l.b = l.b ∧ l.q = l.q from ⟨rfl, rfl⟩)]; split <;> omega
    · obtain ⟨h1, h2⟩ := ih h
      constructor
      · split <;> split <;> omega
      · split <;> split <;> omega
def PortP (B : List Bg) (a p : Int) : Prop := (0 ≤ a ∧ a < (B.length : Int)) ∧ (0 ≤ p ∧ p < ((B.getD a.toNat Bg.nil).L.length : Int))
def EndP (B : List Bg) (a p : Int) : Prop := (0 ≤ a ∧ a < (B.length : Int)) ∧ (0 ≤ p ∧ p < ((B.getD a.toNat Bg.nil).L.length : Int)) ∧ (pt B a.toNat p.toNat).up = true
structure NetP (B : List Bg) (K : List Lk) : Prop where
  many : 1 ≤ B.length ∧ B.length ≤ 5
  few : K.length ≤ 6
  ok : ∀ i, i < B.length → bOk (B.getD i Bg.nil).id (B.getD i Bg.nil).L = true
  inj : ∀ i j, i < B.length → j < B.length → (B.getD i Bg.nil).id = (B.getD j Bg.nil).id → i = j
  once : ∀ i x, i < B.length → x < (B.getD i Bg.nil).L.length → onceL K i x = if (pt B i x).up then 1 else 0
  link : ∀ l, l ∈ K → l.a ≠ l.b ∧ EndP B l.a l.p ∧ EndP B l.b l.q
def Unlike (B : List Bg) (n : Nat) : Prop := ∀ i k, i < n → k < i → (B.getD k Bg.nil).id ≠ (B.getD i Bg.nil).id
theorem unlike_inj {B : List Bg} (h : Unlike B B.length) : ∀ i j, i < B.length → j < B.length → (B.getD i Bg.nil).id = (B.getD j Bg.nil).id → i = j := by
  intro i j hi hj e
  rcases Nat.lt_trichotomy i j with q | q | q
  · exact absurd e (h j i hj q)
  · exact q
  · exact absurd e.symm (h i j hi q)
theorem end_up {B : List Bg} {K : List Lk} (ho : ∀ i x, i < B.length → x < (B.getD i Bg.nil).L.length → onceL K i x = if (pt B i x).up then 1 else 0) {a p : Int} (h : PortP B a p) (h1 : 1 ≤ onceL K a p) : EndP B a p := by
  obtain ⟨⟨a1, a2⟩, p1, p2⟩ := h
  refine ⟨⟨a1, a2⟩, ⟨p1, p2⟩, ?_⟩
  have := ho a.toNat p.toNat (by omega) (by omega)
  rw [show ((a.toNat : Nat) : Int) = a by omega, show ((p.toNat : Nat) : Int) = p by omega] at this
  cases hu : (pt B a.toNat p.toNat).up
  · rw [hu] at this
    have : onceL K a p = 0 := by simpa using this
    omega
  · rfl
theorem EndP.port {B : List Bg} {a p : Int} (h : EndP B a p) : PortP B a p := ⟨h.1, h.2.1⟩
def YN (e : Ending) (Q : Prop) : Prop := ∃ R : Bool, e = .returned (.bool R) ∧ (R = true ↔ Q)
theorem YN.no {Q : Prop} (h : ¬ Q) : YN (.returned (.bool false)) Q := ⟨false, rfl, ⟨fun h => (by cases h), fun q => absurd q h⟩⟩
theorem YN.yes {Q : Prop} (h : Q) : YN (.returned (.bool true)) Q := ⟨true, rfl, ⟨fun _ => h, fun _ => rfl⟩⟩
theorem YN.is {Q : Prop} {R : Bool} (h : R = true ↔ Q) : YN (.returned (.bool R)) Q := ⟨R, rfl, h⟩

end Go.Proofs.Ytdfjfodfnildiaa
namespace Go.Proofs.Ytdfjfodfnildiaa
open Go.ChangeShapes Go.WideShapes Go.ChangeAt Go.RowKit
open Go.ChangeMaps (open_string shut_string)
set_option linter.unusedVariables false
set_option maxRecDepth 100000

structure BrAt (w : World) (q : Nat) (id : Int) (v : Value) : Prop where
  c0 : w.cell? ⟨q, 0, none⟩ = some (.int .i64 id)
  c1 : w.cell? ⟨q, 1, none⟩ = some v
theorem BrAt.keep {w w' : World} {q : Nat} {id : Int} {v : Value} (h : BrAt w q id v) (k : w'.heap[q]? = w.heap[q]?) : BrAt w' q id v :=
  ⟨(World.cell?_of_block (a := ⟨q, 0, none⟩) k).trans h.c0, (World.cell?_of_block (a := ⟨q, 1, none⟩) k).trans h.c1⟩
theorem BrAt.below {w w' : World} {q n : Nat} {id : Int} {v : Value} (h : BrAt w q id v) (k : Below n w w') (hq : q < n) : BrAt w' q id v := h.keep (k.block q hq)
theorem BrAt.lt {w : World} {q : Nat} {id : Int} {v : Value} (h : BrAt w q id v) : q < w.heap.size := World.block_lt_of_cell? w _ h.c0
theorem BrAt.new (w : World) (t : TypeId) (id : Int) (v : Value) : BrAt (w.alloc (Obj.cells #[.int .i64 id, v] t)) w.heap.size id v := by
  refine ⟨?_, ?_⟩ <;> simp [go_sem]
theorem BrAt.alloc {w : World} {q : Nat} {id : Int} {v : Value} (h : BrAt w q id v) (o : Obj) : BrAt (w.alloc o) q id v := h.keep (Below.heap_alloc w o q h.lt)
theorem below_new {w : World} (o : Obj) : Below w.heap.size w (w.alloc o) := (Below.refl _ _).alloc (Nat.le_refl _) _
structure BBox (w : World) (q : Nat) (id : Int) (v : Value) : Prop where
  at_ : BrAt w q id v
  fr : ∀ i, w.frozen? ⟨q, i, none⟩ = false
theorem BBox.keep {w w' : World} {q : Nat} {id : Int} {v : Value} (h : BBox w q id v) (k : w'.heap[q]? = w.heap[q]?) : BBox w' q id v :=
  ⟨h.at_.keep k, fun i => (World.frozen?_of_block (a := ⟨q, i, none⟩) k).trans (h.fr i)⟩
theorem BBox.lt {w : World} {q : Nat} {id : Int} {v : Value} (h : BBox w q id v) : q < w.heap.size := h.at_.lt
theorem BBox.below {w w' : World} {q n : Nat} {id : Int} {v : Value} (h : BBox w q id v) (k : Below n w w') (hq : q < n) : BBox w' q id v := h.keep (k.block q hq)
theorem BBox.new (w : World) (t : TypeId) (id : Int) (v : Value) : BBox (w.alloc (Obj.cells #[.int .i64 id, v] t)) w.heap.size id v := ⟨BrAt.new w t id v, fun i => by simp [go_sem]⟩
theorem BBox.put {w : World} {q : Nat} {id : Int} {v : Value} (h : BBox w q id v) (id' : Int) (v' : Value) : BBox ((w.setCell ⟨q, 0, none⟩ (.int .i64 id')).setCell ⟨q, 1, none⟩ v') q id' v' := by
  have e1 : (w.setCell ⟨q, 0, none⟩ (.int .i64 id')).cell? ⟨q, 1, none⟩ = some v := (pset_else (by decide)).trans h.at_.c1
  refine ⟨⟨(pset_else (by decide)).trans (pset_same h.at_.c0), pset_same e1⟩, fun i => ?_⟩
  rw [World.frozen?_setCell, World.frozen?_setCell]; exact h.fr i
end Go.Proofs.Ytdfjfodfnildiaa
namespace Go.Proofs.Ytdfjfodfnildiaa
open Go.ChangeShapes Go.WideShapes Go.ChangeAt Go.RowKit
open Go.ChangeMaps (open_string shut_string)
set_option linter.unusedVariables false
set_option maxRecDepth 100000

end Go.Proofs.Ytdfjfodfnildiaa
namespace Go.Proofs.Ytdfjfodfnildiaa
open Go.ChangeShapes Go.WideShapes Go.ChangeAt Go.RowKit
open Go.ChangeMaps (open_string shut_string)
set_option linter.unusedVariables false
set_option maxRecDepth 100000

end Go.Proofs.Ytdfjfodfnildiaa
namespace Go.Proofs.Ytdfjfodfnildiaa
open Go.ChangeShapes Go.WideShapes Go.ChangeAt Go.RowKit
open Go.ChangeMaps (open_string shut_string)
set_option linter.unusedVariables false
set_option maxRecDepth 100000

theorem brInfo2 : (Try.prog.info? 71).map (fun i => (i.zero, i.size, i.bytes)) = some (some (.agg #[.int .i64 0, .slice none 0 0]), 2, 32) := by kernel_rfl
end Go.Proofs.Ytdfjfodfnildiaa
namespace Go.Proofs.Ytdfjfodfnildiaa
open Go.ChangeShapes Go.WideShapes Go.ChangeAt Go.RowKit
open Go.ChangeMaps (open_string shut_string)
set_option linter.unusedVariables false
set_option maxRecDepth 100000

def RingP (p : Lk → Bool) (K : List Lk) : Prop := ∀ A x C, K = A ++ x :: C → p x = true → ¬ Con ((A ++ C).filter p) x.a x.b
theorem ring_filter (p : Lk → Bool) (K : List Lk) : RingP p K ↔ ∀ A x C, K.filter p = A ++ x :: C → ¬ Con (A ++ C) x.a x.b := by
  constructor
  · intro h A x C e
    obtain ⟨K1, K2, rfl, e1, e2⟩ := List.filter_eq_append_iff.1 e
    obtain ⟨K3, K4, rfl, e3, e4, e5⟩ := List.filter_eq_cons_iff.1 e2
    have := h (K1 ++ K3) x K4 (by simp) e4
    have q : K3.filter p = [] := by rw [List.filter_eq_nil_iff]; exact e3
    simp only [List.filter_append, q, List.append_nil, e1, e5] at this
    exact this
  · intro h A x C e hx
    subst e
    have := h (A.filter p) x (C.filter p) (by simp [List.filter_append, hx])
    rwa [List.filter_append]
def SpanP (p : Lk → Bool) (K : List Lk) (n : Nat) : Prop := ∀ i : Nat, i < n → ∀ j : Nat, j < n → Con K (i : Int) (j : Int) → Con (K.filter p) (i : Int) (j : Int)
theorem idx_count (M : List Bool) : ∀ k, (idx k M).length = M.count true := by
  induction M with
  | nil => intro k; rfl
  | cons x M ih => intro k; cases x <;> simp [idx, ih]
theorem count_sub (N : List Bool) : ∀ M : List Bool, N.length = M.length → (∀ j, N.getD j false = true → M.getD j false = true) → N.count true ≤ M.count true ∧ (N.count true = M.count true → N = M) := by
  induction N with
  | nil => intro M hl _; cases M with | nil => exact ⟨Nat.le_refl _, fun _ => rfl⟩ | cons x M => simp at hl
  | cons y N ih =>
    intro M hl h
    cases M with
    | nil => simp at hl
    | cons x M =>
      have r := ih M (by simpa using hl) (fun j hj => by have := h (j + 1) (by simpa using hj); simpa using this)
      have h0 : y = true → x = true := fun e => by have := h 0 (by simpa using e); simpa using this
      simp only [List.count_cons]
      cases y
      · cases x
        · refine ⟨by simpa using r.1, fun e => ?_⟩
          rw [r.2 (by simpa using e)]
        · refine ⟨?_, fun e => ?_⟩
          · have := r.1; simp; omega
          · have := r.1; simp at e; omega
      · have := h0 rfl
        subst this
        refine ⟨by simpa using r.1, fun e => ?_⟩
        rw [r.2 (by simpa using e)]
theorem filter_sub {K : List Lk} {p : Lk → Bool} {a b : Int} (h : Con (K.filter p) a b) : Con K a b := h.sub (fun _ hl => (List.mem_filter.1 hl).1)
theorem span_eq {p : Lk → Bool} {K : List Lk} {n : Nat} {i : Nat} {M N : List Bool} (hM : Marks K n (i : Int) M) (hN : Marks (K.filter p) n (i : Int) N) : N = M ↔ ∀ j : Nat, j < n → Con K (i : Int) (j : Int) → Con (K.filter p) (i : Int) (j : Int) := by
  constructor
  · intro e j hj h
    exact (hN.is j hj).1 (by rw [e]; exact (hM.is j hj).2 h)
  · intro h
    refine eq_of_getD (by rw [hM.len, hN.len]) (fun j hj => ?_)
    rw [hN.len] at hj
    exact Bool.eq_iff_iff.2 ((hN.is j hj).trans (Iff.trans ⟨filter_sub, h j hj⟩ (hM.is j hj).symm))
theorem span_len {p : Lk → Bool} {K : List Lk} {n : Nat} {i : Nat} {M N : List Bool} (hM : Marks K n (i : Int) M) (hN : Marks (K.filter p) n (i : Int) N) : (idx 0 M).length = (idx 0 N).length ↔ N = M := by
  rw [idx_count, idx_count]
  constructor
  · intro e
    refine (count_sub N M (by rw [hM.len, hN.len]) (fun j hj => ?_)).2 e.symm
    have hl := getD_lt hj
    rw [hN.len] at hl
    exact (hM.is j hl).2 (filter_sub ((hN.is j hl).1 hj))
  · intro e; rw [e]
def LeastP (B : List Bg) (K : List Lk) (R : List Int) : Prop := ∀ r : Int, r ∈ R → ∀ j : Nat, j < B.length → Con K r (j : Int) → ¬ (B.getD j Bg.nil).id < (B.getD r.toNat Bg.nil).id
def openB (B : List Bg) (l : Lk) : Bool := (pt B l.a.toNat l.p.toNat).op && (pt B l.b.toNat l.q.toNat).op
theorem NetP.inN {B : List Bg} {K : List Lk} (h : NetP B K) : InN K B.length := fun l hl => ⟨(h.link l hl).2.1.1, (h.link l hl).2.2.1⟩

end Go.Proofs.Ytdfjfodfnildiaa
namespace Go.Proofs.Ytdfjfodfnildiaa
open Go.ChangeShapes Go.WideShapes Go.ChangeAt Go.RowKit
open Go.ChangeMaps (open_string shut_string)
set_option linter.unusedVariables false
set_option maxRecDepth 100000

theorem info4x : ∃ i, Try.prog.info? 4 = some i := by
  have h : (Try.prog.info? 4).isSome = true := by kernel_rfl
  exact Option.isSome_iff_exists.1 h
theorem eq5 (w : World) (a0 a1 a2 a3 a4 b0 b1 b2 b3 b4 : Bool) : (Op.equalIn 10000 58 (.agg #[.bool a0, .bool a1, .bool a2, .bool a3, .bool a4]) (.agg #[.bool b0, .bool b1, .bool b2, .bool b3, .bool b4])).run Try.prog w = .ok (a0 == b0 && (a1 == b1 && (a2 == b2 && (a3 == b3 && a4 == b4)))) w := by
  obtain ⟨i, hi⟩ := info4x
  have hc : Try.prog.cellsOf 4 = 1 := by kernel_rfl
  have hu : Try.prog.underlying 58 = some (.array 5 4) := by kernel_rfl
  rw [run_equalIn_array w 9999 _ _ hu hi, hc]
  have h4 : Try.prog.underlying 4 = some .bool := by kernel_rfl
  have hb0 : ∀ (d : Nat) (a b : Bool), (Op.equalIn (d + 1) 4 (.bool a) (.bool b)).run Try.prog w = .ok (a == b) w := fun d a b => by
    simp only [Op.equalIn, Sem.run_bind, run_underlying h4, Result.andThen_ok, Sem.run_pure]
  have hb : ∀ (a b : Bool), (Op.equalIn 9999 4 (.bool a) (.bool b)).run Try.prog w = .ok (a == b) w := hb0 9998
  have hp : Try.prog.plainKey 4 = true := by kernel_rfl
  have p0 : ∀ (x0 x1 x2 x3 x4 : Value), (part 4 #[x0, x1, x2, x3, x4] 0).run Try.prog w = .ok x0 w := fun x0 x1 x2 x3 x4 => run_part_plain w hp rfl
  have p1 : ∀ (x0 x1 x2 x3 x4 : Value), (part 4 #[x0, x1, x2, x3, x4] 1).run Try.prog w = .ok x1 w := fun x0 x1 x2 x3 x4 => run_part_plain w hp rfl
  have p2 : ∀ (x0 x1 x2 x3 x4 : Value), (part 4 #[x0, x1, x2, x3, x4] 2).run Try.prog w = .ok x2 w := fun x0 x1 x2 x3 x4 => run_part_plain w hp rfl
  have p3 : ∀ (x0 x1 x2 x3 x4 : Value), (part 4 #[x0, x1, x2, x3, x4] 3).run Try.prog w = .ok x3 w := fun x0 x1 x2 x3 x4 => run_part_plain w hp rfl
  have p4 : ∀ (x0 x1 x2 x3 x4 : Value), (part 4 #[x0, x1, x2, x3, x4] 4).run Try.prog w = .ok x4 w := fun x0 x1 x2 x3 x4 => run_part_plain w hp rfl
  simp only [show List.range 5 = [0, 1, 2, 3, 4] from rfl, Op.eqItems, Sem.run_bind, Nat.mul_one]
  rw [p0, Result.andThen_ok, p0, Result.andThen_ok, hb, Result.andThen_ok]
  cases a0 == b0
  · simp
  simp only [Bool.not_true, Bool.false_eq_true, if_false, Sem.run_bind, Bool.true_and]
  rw [p1, Result.andThen_ok, p1, Result.andThen_ok, hb, Result.andThen_ok]
  cases a1 == b1
  · simp
  simp only [Bool.not_true, Bool.false_eq_true, if_false, Sem.run_bind, Bool.true_and]
  rw [p2, Result.andThen_ok, p2, Result.andThen_ok, hb, Result.andThen_ok]
  cases a2 == b2
  · simp
  simp only [Bool.not_true, Bool.false_eq_true, if_false, Sem.run_bind, Bool.true_and]
  rw [p3, Result.andThen_ok, p3, Result.andThen_ok, hb, Result.andThen_ok]
  cases a3 == b3
  · simp
  simp only [Bool.not_true, Bool.false_eq_true, if_false, Sem.run_bind, Bool.true_and]
  rw [p4, Result.andThen_ok, p4, Result.andThen_ok, hb, Result.andThen_ok]
  cases a4 == b4 <;> simp
theorem eq5_is {M N : List Bool} (hM : M.length = 5) (hN : N.length = 5) : ((M.getD 0 false == N.getD 0 false && (M.getD 1 false == N.getD 1 false && (M.getD 2 false == N.getD 2 false && (M.getD 3 false == N.getD 3 false && M.getD 4 false == N.getD 4 false)))) = true ↔ M = N) := by
  constructor
  · intro h
    simp only [Bool.and_eq_true, beq_iff_eq] at h
    rw [list5 hM, list5 hN, h.1, h.2.1, h.2.2.1, h.2.2.2.1, h.2.2.2.2]
  · intro h
    subst h
    simp
def SpanAt (p : Lk → Bool) (K : List Lk) (n i : Nat) : Prop := ∀ j : Nat, j < n → Con K (i : Int) (j : Int) → Con (K.filter p) (i : Int) (j : Int)
theorem span_five {p : Lk → Bool} {K : List Lk} {n i : Nat} {M N : List Bool} (hK : InN K n) (hn : n ≤ 5) (hi : i < n) (hM : Marks K 5 (i : Int) M) (hN : Marks (K.filter p) 5 (i : Int) N) : N = M ↔ SpanAt p K n i := by
  rw [span_eq hM hN]
  constructor
  · exact fun h j hj => h j (by omega)
  · intro h j hj q
    have := q.within hK ⟨by omega, by omega⟩
    exact h j (by omega) q

end Go.Proofs.Ytdfjfodfnildiaa
