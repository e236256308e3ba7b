/- Lists of minders in memory. -/
import Derived.Test.YtnpiljegdiconaaGreatRows
import Derived.WalkKit
import Derived.ProofKit
import Derived.OpenShut
import Derived.ShutString
import Derived.ChangeOld
import Derived.Below
import Derived.Deep.QuietTactic
import Derived.BigQuiet
import Derived.WalkSmall
import Derived.Laws.OwnMore
import Derived.WalkSpells
import Derived.WalkLawsBesides
import Derived.Test.YtnpiljegdiconaaGreatBxd1
namespace Go.Proofs.YtnpiljegdiconaaGreat
open Go.ChangeShapes Go.WideShapes Go.ChangeAt Go.RowKit
open Go.ChangeMaps (open_string shut_string)
set_option linter.unusedVariables false
set_option maxRecDepth 100000

theorem FOwn.capM {X : Type} {enc : X → List Value} {n : Nat} {T : TypeId} {base : Nat} {w : World} {ad : Option Addr} {cap : Nat} {L : List X} (h : FOwn enc n T base w (.slice ad L.length cap) L) : L.length ≤ cap := by
  rcases h.2 with ⟨e, h0⟩ | ⟨g, c, cur, e, _, _, hc, _⟩
  · omega
  · simp only [Value.slice.injEq] at e
    omega
/-- Its log, as a value. -/
def MiD.v (d : MiD) : Value := .slice d.ad d.m.lg.length d.cap
theorem md_get (D : List MiD) (i : Nat) : (D.map MiD.m).getD i Mi.nil = (D.getD i MiD.nil).m := by
  simp only [List.getD, List.getElem?_map]
  cases D[i]? <;> rfl
theorem mdPut (w : World) (g o : Nat) (x : MiD) : putAll w g o (mdEnc x) = (((((((w.setCell ⟨g, o, none⟩ (.bool x.m.up)).setCell ⟨g, o + 1, none⟩ (.int .i64 x.m.li)).setCell ⟨g, o + 2, none⟩ (.int .i64 x.m.ep)).setCell ⟨g, o + 3, none⟩ (.slice x.ad x.m.lg.length x.cap)).setCell ⟨g, o + 4, none⟩ (.int .i64 x.m.sd)).setCell ⟨g, o + 5, none⟩ (.int .i64 x.m.ac)).setCell ⟨g, o + 6, none⟩ (.int .i64 x.m.al)) := rfl
/-- The slice at 'ad' reads as the list Bs of minders. -/
structure MV (w : World) (ad : Option Addr) (Bs : List MiD) : Prop where
  row : FView mdEnc w ad Bs
  nest : ∀ i, i < Bs.length → FView ikEnc w (Bs.getD i MiD.nil).ad (Bs.getD i MiD.nil).m.lg
  nil0 : ∀ i, i < Bs.length → (Bs.getD i MiD.nil).ad = none → (Bs.getD i MiD.nil).cap = 0
theorem MV.nil {w : World} {ad : Option Addr} : MV w ad [] := ⟨FView.nil, fun i h => absurd h (by simp), fun i h => absurd h (by simp)⟩
theorem MV.below {w w' : World} {ad : Option Addr} {Bs : List MiD} {B : Nat} (h : MV w ad Bs) (k : Below B w w') (hB : w.heap.size ≤ B) : MV w' ad Bs :=
  ⟨h.row.below k (fun a e p => Nat.lt_of_lt_of_le (h.row.lt mdEnc_len (by omega) a e p) hB), fun i hi => (h.nest i hi).below k (fun a e p => Nat.lt_of_lt_of_le ((h.nest i hi).lt ikEnc_len (by omega) a e p) hB), h.nil0⟩
theorem MV.carry {w w' : World} {ad : Option Addr} {Bs : List MiD} (h : MV w ad Bs) (k : ∀ g, g < w.heap.size → w'.heap[g]? = w.heap[g]?) : MV w' ad Bs :=
  ⟨h.row.carry (fun a e p => k _ (h.row.lt mdEnc_len (by omega) a e p)), fun i hi => (h.nest i hi).carry (fun a e p => k _ ((h.nest i hi).lt ikEnc_len (by omega) a e p)), h.nil0⟩
theorem MV.at_ {w : World} {b off : Nat} {Bs : List MiD} (h : MV w (some ⟨b, off, none⟩) Bs) {i : Nat} (hi : i < Bs.length) : MdAtO w b (off + i * 7) (Bs.getD i MiD.nil) := mdAtO_of (h.row.at_ mdEnc_len MiD.nil hi)
theorem MV.ad_ {w : World} {ad : Option Addr} {Bs : List MiD} (h : MV w ad Bs) (hp : 0 < Bs.length) : ∃ b off, ad = some ⟨b, off, none⟩ := by
  obtain ⟨b, off, e, _⟩ := h.row hp
  exact ⟨b, off, e⟩
/-- A list of minders whose memory is its own, from lo on below hi. -/
structure MOwn (lo hi : Nat) (w : World) (v : Value) (Bs : List MiD) : Prop where
  row : FOwn mdEnc 7 28 lo w v Bs
  nest : ∀ i, i < Bs.length → FOwn ikEnc 8 105 lo w (Bs.getD i MiD.nil).v (Bs.getD i MiD.nil).m.lg
  rhi : ∀ g, v.ownBlock = some g → g < hi
  nhi : ∀ i, i < Bs.length → ∀ g, (Bs.getD i MiD.nil).v.ownBlock = some g → g < hi
  apart : ∀ i, i < Bs.length → ∀ g h, v.ownBlock = some g → (Bs.getD i MiD.nil).v.ownBlock = some h → g ≠ h
  aparts : ∀ i j, i < j → j < Bs.length → ∀ g h, (Bs.getD i MiD.nil).v.ownBlock = some g → (Bs.getD j MiD.nil).v.ownBlock = some h → g ≠ h
theorem own_noneM {X : Type} {enc : X → List Value} {n : Nat} {T : TypeId} {base : Nat} {w : World} {len cap : Nat} {L : List X} (h : FOwn enc n T base w (.slice none len cap) L) : cap = 0 := by
  rcases h.2 with ⟨q, _⟩ | ⟨g, c, cur, q, _⟩
  · simp only [Value.slice.injEq] at q
    exact q.2.2
  · simp at q
theorem MOwn.view {lo hi : Nat} {w : World} {ad : Option Addr} {len cap : Nat} {Bs : List MiD} (h : MOwn lo hi w (.slice ad len cap) Bs) : len = Bs.length ∧ MV w ad Bs := by
  refine ⟨h.row.view.1, h.row.view.2, fun i hi => (h.nest i hi).view.2, fun i hi e => ?_⟩
  have := h.nest i hi
  unfold MiD.v at this
  rw [e] at this
  exact own_noneM this
theorem MOwn.keep {lo hi : Nat} {w w' : World} {v : Value} {Bs : List MiD} (h : MOwn lo hi w v Bs) (k : ∀ g, lo ≤ g → g < hi → w'.heap[g]? = w.heap[g]?) : MOwn lo hi w' v Bs :=
  ⟨h.row.keep (fun g e => k g (h.row.lt g e).1 (h.rhi g e)), fun i hi => (h.nest i hi).keep (fun g e => k g ((h.nest i hi).lt g e).1 (h.nhi i hi g e)), h.rhi, h.nhi, h.apart, h.aparts⟩
theorem MOwn.wide {lo hi lo' hi' : Nat} {w : World} {v : Value} {Bs : List MiD} (h : MOwn lo hi w v Bs) (h1 : lo' ≤ lo) (h2 : hi ≤ hi') : MOwn lo' hi' w v Bs :=
  ⟨h.row.base h1, fun i hi => (h.nest i hi).base h1, fun g e => Nat.lt_of_lt_of_le (h.rhi g e) h2, fun i hi g e => Nat.lt_of_lt_of_le (h.nhi i hi g e) h2, h.apart, h.aparts⟩
theorem MOwn.below {lo hi B : Nat} {w w' : World} {v : Value} {Bs : List MiD} (h : MOwn lo hi w v Bs) (k : Below B w w') (hB : hi ≤ B) : MOwn lo hi w' v Bs := h.keep fun g _ hg => k.block _ (by omega)

end Go.Proofs.YtnpiljegdiconaaGreat
