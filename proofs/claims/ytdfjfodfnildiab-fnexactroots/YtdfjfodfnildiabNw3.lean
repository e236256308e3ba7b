/- What NetNew answers. -/
import Derived.Test.YtdfjfodfnildiabRows
import Derived.WalkKit
import Derived.ProofKit
import Derived.OpenShut
import Derived.ShutString
import Derived.ChangeOld
import Derived.Below
import Derived.Deep.QuietTactic
import Derived.BigQuiet
import Derived.WalkSmall
import Derived.Laws.OwnMore
import Derived.WalkSpells
import Derived.WalkLawsBesides
import Derived.Deep.Cut
import Derived.Maps.AppendAt
import Derived.Laws.StructEq
import Derived.Test.YtdfjfodfnildiabNw2
namespace Go.Proofs.Ytdfjfodfnildiab
open Go.ChangeShapes Go.WideShapes Go.ChangeAt Go.RowKit
open Go.ChangeMaps (open_string shut_string)
set_option linter.unusedVariables false
set_option maxRecDepth 100000

/-- What NetNew answers. -/
structure NewOut (ids : List Int) (K : List Lk) (ok : Bool) (Cs : List Bd) (KL : List Lk) : Prop where
  yn : ok = true ↔ NewP ids K
  yes : ok = true → dB Cs = netN ids (ofK K) ids.length ∧ KL = K
  no : ok = false → Cs = [] ∧ KL = []
def NewRet (ids : List Int) (K : List Lk) (w : World) (e : Ending) (w' : World) : Prop :=
  ∃ adB cB Cs adL cL KL ok mid, e = .returned (.tuple #[.agg #[.slice adB (List.length Cs) cB, .slice adL (List.length KL) cL], .bool ok]) ∧ NewOut ids K ok Cs KL ∧ NetOwn w.heap.size mid w'.heap.size w' (.slice adB Cs.length cB) Cs (.slice adL KL.length cL) KL ∧ Below w.heap.size w w'
theorem NewRet.no {ids : List Int} {K : List Lk} {w w' : World} (h : ¬ NewP ids K) (b : Below w.heap.size w w') : NewRet ids K w (.returned (.tuple #[.agg #[.slice none 0 0, .slice none 0 0], .bool false])) w' :=
  ⟨none, 0, [], none, 0, [], false, w.heap.size, rfl, ⟨⟨fun q => (by cases q), fun q => absurd q h⟩, fun q => (by cases q), fun _ => ⟨rfl, rfl⟩⟩, ⟨NOwn.nil, FOwn.nil, fun g e => by simp [Value.ownBlock] at e, Nat.le_refl _, b.size, Nat.le_refl _⟩, b⟩
theorem NewRet.yes {ids : List Int} {K : List Lk} {w w' : World} {adB : Option Addr} {cB : Nat} {Cs : List Bd} {adL : Option Addr} {cL mid : Nat} (h : NewP ids K) (d : dB Cs = netN ids (ofK K) ids.length) (o : NetOwn w.heap.size mid w'.heap.size w' (.slice adB Cs.length cB) Cs (.slice adL K.length cL) K) (b : Below w.heap.size w w') : NewRet ids K w (.returned (.tuple #[.agg #[.slice adB Cs.length cB, .slice adL K.length cL], .bool true])) w' :=
  ⟨adB, cB, Cs, adL, cL, K, true, mid, rfl, ⟨⟨fun _ => h, fun _ => rfl⟩, fun _ => ⟨d, rfl⟩, fun q => (by cases q)⟩, o, b⟩
/-- A box of two cells that may be written. -/
structure NeBox (w : World) (q : Nat) (v0 v1 : Value) : Prop where
  at_ : NeAt w q v0 v1
  fr : ∀ i, w.frozen? ⟨q, i, none⟩ = false
theorem NeBox.keep {w w' : World} {q : Nat} {v0 v1 : Value} (h : NeBox w q v0 v1) (k : w'.heap[q]? = w.heap[q]?) : NeBox w' q v0 v1 :=
  ⟨h.at_.keep k, fun i => (World.frozen?_of_block (a := ⟨q, i, none⟩) k).trans (h.fr i)⟩
theorem NeBox.lt {w : World} {q : Nat} {v0 v1 : Value} (h : NeBox w q v0 v1) : q < w.heap.size := h.at_.lt
theorem NeBox.below {w w' : World} {q n : Nat} {v0 v1 : Value} (h : NeBox w q v0 v1) (k : Below n w w') (hq : q < n) : NeBox w' q v0 v1 := h.keep (k.block q hq)
theorem NeBox.later {w w' : World} {q : Nat} {v0 v1 : Value} (h : NeBox w q v0 v1) (k : Below w.heap.size w w') : NeBox w' q v0 v1 := h.below k h.lt
theorem NeBox.new (w : World) (t : TypeId) {v0 v1 : Value} : NeBox (w.alloc (Obj.cells #[v0, v1] t)) w.heap.size v0 v1 := ⟨NeAt.new w t, fun i => by simp [go_sem]⟩
theorem NeBox.put0 {w : World} {q : Nat} {v0 v1 : Value} (h : NeBox w q v0 v1) (v : Value) : NeBox (w.setCell ⟨q, 0, none⟩ v) q v v1 :=
  ⟨⟨pset_same h.at_.c0, (pset_else (by decide)).trans h.at_.c1⟩, fun i => by rw [World.frozen?_setCell]; exact h.fr i⟩
theorem NeBox.put {w : World} {q : Nat} {v0 v1 : Value} (h : NeBox w q v0 v1) (u v : Value) : NeBox ((w.setCell ⟨q, 0, none⟩ u).setCell ⟨q, 1, none⟩ v) q u v := by
  have e1 : (w.setCell ⟨q, 0, none⟩ u).cell? ⟨q, 1, none⟩ = some v1 := (pset_else (by decide)).trans h.at_.c1
  refine ⟨⟨(pset_else (by decide)).trans (pset_same h.at_.c0), pset_same e1⟩, fun i => ?_⟩
  rw [World.frozen?_setCell, World.frozen?_setCell]; exact h.fr i

end Go.Proofs.Ytdfjfodfnildiab
