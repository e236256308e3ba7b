/- Lists of bridges in memory. -/
import Derived.Test.YtdfjfodfnildiabRows
import Derived.WalkKit
import Derived.ProofKit
import Derived.OpenShut
import Derived.ShutString
import Derived.ChangeOld
import Derived.Below
import Derived.Deep.QuietTactic
import Derived.BigQuiet
import Derived.WalkSmall
import Derived.Laws.OwnMore
import Derived.WalkSpells
import Derived.WalkLawsBesides
import Derived.Test.YtdfjfodfnildiabPts3
namespace Go.Proofs.Ytdfjfodfnildiab
open Go.ChangeShapes Go.WideShapes Go.ChangeAt Go.RowKit
open Go.ChangeMaps (open_string shut_string)
set_option linter.unusedVariables false
set_option maxRecDepth 100000

/-- A bridge: its number, its ports. -/
structure Bg where
  id : Int
  L : List Pt
def Bg.nil : Bg := ⟨0, []⟩
/-- A bridge of a list: its number, and where its own list lies. -/
structure Bd where
  id : Int
  ad : Option Addr
  cap : Nat
  L : List Pt
def Bd.nil : Bd := ⟨0, none, 0, []⟩
/-- What it says. -/
def Bd.d (m : Bd) : Bg := ⟨m.id, m.L⟩
/-- Its list, as a value. -/
def Bd.v (m : Bd) : Value := .slice m.ad m.L.length m.cap
def bdEnc (x : Bd) : List Value := [.int .i64 x.id, .slice x.ad x.L.length x.cap]
theorem bdEnc_len (x : Bd) : (bdEnc x).length = 2 := rfl
theorem bdEnc_ones (L : List Bd) : ∀ u ∈ fcells bdEnc L, u.oneCell' = true := by
  induction L with
  | nil => intro u h; cases h
  | cons x L ih =>
    intro u h
    simp only [fcells, bdEnc, List.mem_append, List.mem_cons, List.not_mem_nil, or_false] at h
    rcases h with (rfl | rfl) | h
    · rfl
    · rfl
    · exact ih u h
/-- What its cells hold, in a world. -/
structure BdAtO (w : World) (b o : Nat) (x : Bd) : Prop where
  c0 : w.cell? ⟨b, o, none⟩ = some (.int .i64 x.id)
  c1 : w.cell? ⟨b, o + 1, none⟩ = some (.slice x.ad x.L.length x.cap)
theorem bdAtO_of {w : World} {b o : Nat} {x : Bd} (h : ∀ j v, (bdEnc x)[j]? = some v → w.cell? ⟨b, o + j, none⟩ = some v) : BdAtO w b o x := ⟨h 0 _ rfl, h 1 _ rfl⟩
theorem bdPut (w : World) (g o : Nat) (x : Bd) : putAll w g o (bdEnc x) = ((w.setCell ⟨g, o, none⟩ (.int .i64 x.id)).setCell ⟨g, o + 1, none⟩ (.slice x.ad x.L.length x.cap)) := rfl
theorem bd_get (Bs : List Bd) (i : Nat) : (Bs.map Bd.d).getD i Bg.nil = (Bs.getD i Bd.nil).d := by
  simp only [List.getD, List.getElem?_map]
  cases Bs[i]? <;> rfl
/-- The slice at 'ad' reads as the list Bs of bridges. -/
structure NV (w : World) (ad : Option Addr) (Bs : List Bd) : Prop where
  row : FView bdEnc w ad Bs
  nest : ∀ i, i < Bs.length → FView ptEnc w (Bs.getD i Bd.nil).ad (Bs.getD i Bd.nil).L
  nil0 : ∀ i, i < Bs.length → (Bs.getD i Bd.nil).ad = none → (Bs.getD i Bd.nil).cap = 0
theorem NV.nil {w : World} {ad : Option Addr} : NV w ad [] := ⟨FView.nil, fun i h => absurd h (by simp), fun i h => absurd h (by simp)⟩
theorem NV.below {w w' : World} {ad : Option Addr} {Bs : List Bd} {B : Nat} (h : NV w ad Bs) (k : Below B w w') (hB : w.heap.size ≤ B) : NV w' ad Bs :=
  ⟨h.row.below k (fun a e p => Nat.lt_of_lt_of_le (h.row.lt bdEnc_len (by omega) a e p) hB), fun i hi => (h.nest i hi).below k (fun a e p => Nat.lt_of_lt_of_le ((h.nest i hi).lt ptEnc_len (by omega) a e p) hB), h.nil0⟩
theorem NV.carry {w w' : World} {ad : Option Addr} {Bs : List Bd} (h : NV w ad Bs) (k : ∀ g, g < w.heap.size → w'.heap[g]? = w.heap[g]?) : NV w' ad Bs :=
  ⟨h.row.carry (fun a e p => k _ (h.row.lt bdEnc_len (by omega) a e p)), fun i hi => (h.nest i hi).carry (fun a e p => k _ ((h.nest i hi).lt ptEnc_len (by omega) a e p)), h.nil0⟩
theorem NV.at_ {w : World} {b off : Nat} {Bs : List Bd} (h : NV w (some ⟨b, off, none⟩) Bs) {i : Nat} (hi : i < Bs.length) : BdAtO w b (off + i * 2) (Bs.getD i Bd.nil) := bdAtO_of (h.row.at_ bdEnc_len Bd.nil hi)
theorem NV.ad_ {w : World} {ad : Option Addr} {Bs : List Bd} (h : NV w ad Bs) (hp : 0 < Bs.length) : ∃ b off, ad = some ⟨b, off, none⟩ := by
  obtain ⟨b, off, e, _⟩ := h.row hp
  exact ⟨b, off, e⟩
/-- A list of bridges whose memory is its own, from lo on below hi. -/
structure NOwn (lo hi : Nat) (w : World) (v : Value) (Bs : List Bd) : Prop where
  row : FOwn bdEnc 2 54 lo w v Bs
  nest : ∀ i, i < Bs.length → FOwn ptEnc 11 68 lo w (Bs.getD i Bd.nil).v (Bs.getD i Bd.nil).L
  rhi : ∀ g, v.ownBlock = some g → g < hi
  nhi : ∀ i, i < Bs.length → ∀ g, (Bs.getD i Bd.nil).v.ownBlock = some g → g < hi
  apart : ∀ i, i < Bs.length → ∀ g h, v.ownBlock = some g → (Bs.getD i Bd.nil).v.ownBlock = some h → g ≠ h
  aparts : ∀ i j, i < j → j < Bs.length → ∀ g h, (Bs.getD i Bd.nil).v.ownBlock = some g → (Bs.getD j Bd.nil).v.ownBlock = some h → g ≠ h
theorem own_none {X : Type} {enc : X → List Value} {n : Nat} {T : TypeId} {base : Nat} {w : World} {len cap : Nat} {L : List X} (h : FOwn enc n T base w (.slice none len cap) L) : cap = 0 := by
  rcases h.2 with ⟨q, _⟩ | ⟨g, c, cur, q, _⟩
  · simp only [Value.slice.injEq] at q
    exact q.2.2
  · simp at q
theorem NOwn.view {lo hi : Nat} {w : World} {ad : Option Addr} {len cap : Nat} {Bs : List Bd} (h : NOwn lo hi w (.slice ad len cap) Bs) : len = Bs.length ∧ NV w ad Bs := by
  refine ⟨h.row.view.1, h.row.view.2, fun i hi => (h.nest i hi).view.2, fun i hi e => ?_⟩
  have := h.nest i hi
  unfold Bd.v at this
  rw [e] at this
  exact own_none this
theorem NOwn.keep {lo hi : Nat} {w w' : World} {v : Value} {Bs : List Bd} (h : NOwn lo hi w v Bs) (k : ∀ g, lo ≤ g → g < hi → w'.heap[g]? = w.heap[g]?) : NOwn lo hi w' v Bs :=
  ⟨h.row.keep (fun g e => k g (h.row.lt g e).1 (h.rhi g e)), fun i hi => (h.nest i hi).keep (fun g e => k g ((h.nest i hi).lt g e).1 (h.nhi i hi g e)), h.rhi, h.nhi, h.apart, h.aparts⟩
theorem NOwn.wide {lo hi lo' hi' : Nat} {w : World} {v : Value} {Bs : List Bd} (h : NOwn lo hi w v Bs) (h1 : lo' ≤ lo) (h2 : hi ≤ hi') : NOwn lo' hi' w v Bs :=
  ⟨h.row.base h1, fun i hi => (h.nest i hi).base h1, fun g e => Nat.lt_of_lt_of_le (h.rhi g e) h2, fun i hi g e => Nat.lt_of_lt_of_le (h.nhi i hi g e) h2, h.apart, h.aparts⟩
theorem NOwn.below {lo hi B : Nat} {w w' : World} {v : Value} {Bs : List Bd} (h : NOwn lo hi w v Bs) (k : Below B w w') (hB : hi ≤ B) : NOwn lo hi w' v Bs := h.keep fun g _ hg => k.block _ (by omega)

end Go.Proofs.Ytdfjfodfnildiab
