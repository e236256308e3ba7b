/- How a claim comes in. -/
import Derived.Test.YtlgcjhebbmejaaaRows
import Derived.WalkKit
import Derived.ProofKit
import Derived.OpenShut
import Derived.ShutString
import Derived.ChangeOld
import Derived.Below
import Derived.Deep.QuietTactic
import Derived.BigQuiet
import Derived.WalkSmall
import Derived.Laws.OwnMore
import Derived.WalkSpells
import Derived.WalkLawsBesides
import Derived.Lib.SmallJoins
import Derived.Test.YtlgcjhebbmejaaaBase
import Derived.Test.YtlgcjhebbmejaaaVec1
namespace Go.Proofs.Ytlgcjhebbmejaaa
open Go.ChangeShapes Go.WideShapes Go.ChangeAt Go.RowKit
open Go.ChangeMaps (open_string shut_string)
set_option linter.unusedVariables false
set_option maxRecDepth 100000

/-- The four numbers of a claim fit. -/
structure VecWf (r c b p : Int) : Prop where
  wr : (Lit.int .i64 r).wf = true
  wc : (Lit.int .i64 c).wf = true
  wb : (Lit.int .i64 b).wf = true
  wp : (Lit.int .i64 p).wf = true
theorem vecIn_open {H : Type} {enc : TypeId × Value → H} {w : World} {r : Reach} {b0 : Nat} {v : Value} {d : DataW H} {p : List MemPlace} (hv : Value.okWide Try.prog w r b0 42 v) (h : DataW.Trod enc Try.prog w 0 (fun _ => true) true 42 v d p) :
    ∃ r c b q, v = .agg #[.int .i64 r, .int .i64 c, .int .i64 b, .int .i64 q] ∧ VecWf r c b q := by
  obtain ⟨v0, v1, v2, v3, y0, y1, y2, y3, n, rfl, _, _, h0, h1, h2, h3⟩ := Go.Joins.open_agg4 Try.underlying42 (by kernel_rfl) (by kernel_rfl) hv h
  obtain ⟨a, ha, _, wa⟩ := DataW.trod_int Try.underlying3 h0
  obtain ⟨b, hb, _, wb⟩ := DataW.trod_int Try.underlying3 h1
  obtain ⟨c, hc, _, wc⟩ := DataW.trod_int Try.underlying3 h2
  obtain ⟨q, hq, _, wq⟩ := DataW.trod_int Try.underlying3 h3
  simp at ha hb hc hq
  subst ha hb hc hq
  exact ⟨a, b, c, q, rfl, wa, wb, wc, wq⟩

/-- What a claim's four cells hold, in a world. -/
def VecAt (w : World) (q : Nat) (r c b p : Int) : Prop :=
  w.cell? ⟨q, 0, none⟩ = some (.int .i64 r) ∧ w.cell? ⟨q, 1, none⟩ = some (.int .i64 c) ∧ w.cell? ⟨q, 2, none⟩ = some (.int .i64 b) ∧ w.cell? ⟨q, 3, none⟩ = some (.int .i64 p)
theorem VecAt.below {w w' : World} {q n : Nat} {r c b p : Int} (h : VecAt w q r c b p) (k : Below n w w') (hq : q < n) : VecAt w' q r c b p :=
  ⟨(k.cell (p := ⟨q, 0, none⟩) hq).trans h.1, (k.cell (p := ⟨q, 1, none⟩) hq).trans h.2.1, (k.cell (p := ⟨q, 2, none⟩) hq).trans h.2.2.1, (k.cell (p := ⟨q, 3, none⟩) hq).trans h.2.2.2⟩
theorem vecAt_box (w : World) (t : TypeId) (r c b p : Int) : VecAt (w.alloc (Obj.cells #[.int .i64 r, .int .i64 c, .int .i64 b, .int .i64 p] t)) w.heap.size r c b p := by
  refine ⟨?_, ?_, ?_, ?_⟩ <;> simp [go_sem]

end Go.Proofs.Ytlgcjhebbmejaaa
