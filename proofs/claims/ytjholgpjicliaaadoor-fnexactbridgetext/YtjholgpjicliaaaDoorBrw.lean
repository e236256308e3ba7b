/- Bridges that come in, with their bounds. -/
import Derived.Test.YtjholgpjicliaaaDoorRows
import Derived.WalkKit
import Derived.ProofKit
import Derived.OpenShut
import Derived.ShutString
import Derived.ChangeOld
import Derived.Below
import Derived.Deep.QuietTactic
import Derived.BigQuiet
import Derived.WalkSmall
import Derived.Laws.OwnMore
import Derived.WalkSpells
import Derived.WalkLawsBesides
import Derived.Deep.Slices
import Derived.Lib.SmallJoins
import Derived.Test.YtjholgpjicliaaaDoorPtw
import Derived.Test.YtjholgpjicliaaaDoorBr1
namespace Go.Proofs.YtjholgpjicliaaaDoor
open Go.ChangeShapes Go.WideShapes Go.ChangeAt Go.RowKit
open Go.ChangeMaps (open_string shut_string)
set_option linter.unusedVariables false
set_option maxRecDepth 100000

/-- What is known of a bridge that comes in. -/
structure BrwIn (w : World) (ad : Option Addr) (cap : Nat) (L : List Pt) : Prop where
  lm : L.length ≤ maxLen
  hv : FView ptEnc w ad L
  hn : ad = none → cap = 0
  wf : ∀ x ∈ L, PtWf x
set_option maxRecDepth 100000 in
theorem brwIn_open {H : Type} {enc : TypeId × Value → H} {w : World} {r : Reach} {b0 : Nat} {v : Value} {d : DataW H} {p : List MemPlace} (hv : Value.okWide Tryd.prog w r b0 48 v) (h : DataW.Trod enc Tryd.prog w 0 (fun _ => true) true 48 v d p) :
    ∃ id ad cap L, v = .agg #[.int .i64 id, .slice ad (List.length L) cap] ∧ (Lit.int .i64 id).wf = true ∧ BrwIn w ad cap L := by
  obtain ⟨v0, v1, y0, y1, n, rfl, _, _, h0, h1⟩ := Go.Joins.open_agg2 Tryd.underlying48 (by kernel_rfl) (by kernel_rfl) hv h
  obtain ⟨z0, e0, _, w0⟩ := DataW.trod_int Tryd.underlying3 h0
  simp at e0
  subst e0
  obtain ⟨ad, cap, L, rfl, m, hV, hn, hw⟩ := ptwRow_open h1
  exact ⟨z0, ad, cap, L, rfl, w0, m, hV, hn, hw⟩

end Go.Proofs.YtjholgpjicliaaaDoor
