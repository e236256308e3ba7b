/- What is known of a frame that comes in. -/
import Derived.Test.YtmeofihjimgldaaRows
import Derived.WalkKit
import Derived.ProofKit
import Derived.OpenShut
import Derived.ShutString
import Derived.ChangeOld
import Derived.Below
import Derived.Deep.QuietTactic
import Derived.BigQuiet
import Derived.WalkSmall
import Derived.Laws.OwnMore
import Derived.WalkSpells
import Derived.Lib.SmallJoins
import Derived.Test.YtmeofihjimgldaaFrameOwn
namespace Go.Proofs.Ytmeofihjimgldaa
open Go.ChangeShapes Go.WideShapes Go.ChangeAt Go.RowKit
open Go.ChangeMaps (open_string shut_string)
set_option linter.unusedVariables false

/-- What is known of a frame that comes in: its numbers fit, its load reads as bytes. -/
structure FrameIn (w : World) (a b c : Int) (ad : Option Addr) (len cap : Nat) (f : Nat → Int) : Prop where
  wa : (Lit.int .i64 a).wf = true
  wb : (Lit.int .i64 b).wf = true
  wc : (Lit.int .i64 c).wf = true
  lm : len ≤ maxLen
  hv : View w ad len f
  hB : ∀ x, ad = some x → 0 < len → x.block < w.heap.size
  hf : ∀ i, 0 ≤ f i ∧ f i ≤ 255
theorem frameIn_open {H : Type} {enc : TypeId × Value → H} {w : World} {r : Reach} {b0 : Nat} {v : Value} {d : DataW H} {p : List MemPlace} (hv : Value.okWide Try.prog w r b0 41 v) (h : DataW.Trod enc Try.prog w 0 (fun _ => true) true 41 v d p) :
    ∃ a b c ad len cap f, v = .agg #[.int .i64 a, .int .i64 b, .int .i64 c, .slice ad len cap] ∧ FrameIn w a b c ad len cap f := by
  obtain ⟨v0, v1, v2, v3, y0, y1, y2, y3, n, rfl, _, _, h0, h1, h2, h3⟩ := Go.Joins.open_agg4 Try.underlying41 (by kernel_rfl) (by kernel_rfl) hv h
  obtain ⟨a, ha, _, wa⟩ := DataW.trod_int Try.underlying3 h0
  obtain ⟨b, hb, _, wb⟩ := DataW.trod_int Try.underlying3 h1
  obtain ⟨c, hc, _, wc⟩ := DataW.trod_int Try.underlying3 h2
  simp at ha hb hc
  subst ha hb hc
  rcases open_ints Try.underlying22 Try.underlying5 (by kernel_rfl) h3 with ⟨hcs, _⟩ | ⟨x, l, cp, zs, hcs, _, hl, hm, hz, _, hcell, hwz⟩
  · simp at hcs
    subst hcs
    exact ⟨a, b, c, none, 0, 0, fun _ => 0, rfl, wa, wb, wc, by unfold maxLen; omega, fun h => absurd h (by omega), fun a h => by simp at h, fun i => by simp⟩
  · simp at hcs
    subst hcs
    simp at hz
    refine ⟨a, b, c, some x, l, cp, fun i => zs.getD i 0, rfl, wa, wb, wc, by omega, fun hp => ?_, fun a h hp => ?_, fun i => ?_⟩
    · obtain ⟨b, off, rfl, hc⟩ := ints_at hcell (by omega)
      exact ⟨b, off, rfl, fun i hi => hc i (by omega)⟩
    · obtain rfl : x = a := by simpa using h
      have hc := hcell 0 (by omega)
      simpa [Addr.add] using World.block_lt_of_cell? w _ hc
    · by_cases hi : i < zs.length
      · have := bounds_u8 (hwz (zs.getD i 0) (by simp [List.getD, hi]))
        exact this
      · simp [List.getD, List.getElem?_eq_none (by omega : zs.length ≤ i)]

end Go.Proofs.Ytmeofihjimgldaa
