/- How an In comes in, with its bounds. -/
import Derived.Test.YtjholgpjicliaaaDoorRows
import Derived.WalkKit
import Derived.ProofKit
import Derived.OpenShut
import Derived.ShutString
import Derived.ChangeOld
import Derived.Below
import Derived.Deep.QuietTactic
import Derived.BigQuiet
import Derived.WalkSmall
import Derived.Laws.OwnMore
import Derived.WalkSpells
import Derived.WalkLawsBesides
import Derived.Lib.SmallJoins
import Derived.Test.YtjholgpjicliaaaDoorIn1x
namespace Go.Proofs.YtjholgpjicliaaaDoor
open Go.ChangeShapes Go.WideShapes Go.ChangeAt Go.RowKit
open Go.ChangeMaps (open_string shut_string)
set_option linter.unusedVariables false
set_option maxRecDepth 100000

/-- The numbers of one that came in fit. -/
def IkWf (x : Ik) : Prop := (Lit.int .i64 x.q).wf = true ∧ (Lit.int .i64 x.r).wf = true ∧ (Lit.int .i64 x.c).wf = true ∧ (Lit.int .i64 x.b).wf = true ∧ (Lit.int .i64 x.p).wf = true ∧ (Lit.int .i64 x.h).wf = true
theorem ikwIn_open {H : Type} {enc : TypeId × Value → H} {w : World} {r : Reach} {b0 : Nat} {v : Value} {d : DataW H} {p : List MemPlace} (hv : Value.okWide Tryd.prog w r b0 25 v) (h : DataW.Trod enc Tryd.prog w 0 (fun _ => true) true 25 v d p) :
    ∃ x : Ik, v = .agg #[.int .i64 x.k, .int .i64 x.q, .int .i64 x.r, .int .i64 x.c, .int .i64 x.b, .int .i64 x.p, .int .i64 x.h, .bool x.up] ∧ IkWf x := by
  obtain ⟨cs, rfl, hsz⟩ := okWide_struct Tryd.underlying25 hv
  rw [(by kernel_rfl : Tryd.prog.cellsOf 25 = 8)] at hsz
  obtain ⟨cs⟩ := cs
  obtain ⟨fuel, hf0⟩ := h
  simp only [Value.cells] at hf0
  have hlen : cs.length = 8 := by simpa using hsz
  obtain ⟨xs, k, hk, hxy, _, hxl, hf⟩ := DataW.trod_struct Tryd.underlying25 hf0
  match xs, hxl, cs, hlen with
  | [y0, y1, y2, y3, y4], _, [c0, c1, c2, c3, c4, c5, c6, c7], _ =>
    have g0 : DataW.trod enc Tryd.prog w 0 (fun _ => true) true k 3 ((List.drop 0 [c0, c1, c2, c3, c4, c5, c6, c7]).take (Tryd.prog.cellsOf 3)) = some y0 := hf 0 _ rfl
    rw [(by kernel_rfl : Tryd.prog.cellsOf 3 = 1)] at g0
    have g1 : DataW.trod enc Tryd.prog w 0 (fun _ => true) true k 3 ((List.drop 1 [c0, c1, c2, c3, c4, c5, c6, c7]).take (Tryd.prog.cellsOf 3)) = some y1 := hf 1 _ rfl
    rw [(by kernel_rfl : Tryd.prog.cellsOf 3 = 1)] at g1
    have g2 : DataW.trod enc Tryd.prog w 0 (fun _ => true) true k 23 ((List.drop 2 [c0, c1, c2, c3, c4, c5, c6, c7]).take (Tryd.prog.cellsOf 23)) = some y2 := hf 2 _ rfl
    rw [(by kernel_rfl : Tryd.prog.cellsOf 23 = 4)] at g2
    have g3 : DataW.trod enc Tryd.prog w 0 (fun _ => true) true k 3 ((List.drop 6 [c0, c1, c2, c3, c4, c5, c6, c7]).take (Tryd.prog.cellsOf 3)) = some y3 := hf 3 _ rfl
    rw [(by kernel_rfl : Tryd.prog.cellsOf 3 = 1)] at g3
    have g4 : DataW.trod enc Tryd.prog w 0 (fun _ => true) true k 4 ((List.drop 7 [c0, c1, c2, c3, c4, c5, c6, c7]).take (Tryd.prog.cellsOf 4)) = some y4 := hf 4 _ rfl
    rw [(by kernel_rfl : Tryd.prog.cellsOf 4 = 1)] at g4
    obtain ⟨us, k2, hk2, hxy2, _, hul, hg⟩ := DataW.trod_struct Tryd.underlying23 g2
    match us, hul with
    | [u0, u1, u2, u3], _ =>
      have q0 : DataW.trod enc Tryd.prog w 0 (fun _ => true) true k2 3 ((List.drop 0 [c2, c3, c4, c5]).take (Tryd.prog.cellsOf 3)) = some u0 := hg 0 _ rfl
      rw [(by kernel_rfl : Tryd.prog.cellsOf 3 = 1)] at q0
      have q1 : DataW.trod enc Tryd.prog w 0 (fun _ => true) true k2 3 ((List.drop 1 [c2, c3, c4, c5]).take (Tryd.prog.cellsOf 3)) = some u1 := hg 1 _ rfl
      rw [(by kernel_rfl : Tryd.prog.cellsOf 3 = 1)] at q1
      have q2 : DataW.trod enc Tryd.prog w 0 (fun _ => true) true k2 3 ((List.drop 2 [c2, c3, c4, c5]).take (Tryd.prog.cellsOf 3)) = some u2 := hg 2 _ rfl
      rw [(by kernel_rfl : Tryd.prog.cellsOf 3 = 1)] at q2
      have q3 : DataW.trod enc Tryd.prog w 0 (fun _ => true) true k2 3 ((List.drop 3 [c2, c3, c4, c5]).take (Tryd.prog.cellsOf 3)) = some u3 := hg 3 _ rfl
      rw [(by kernel_rfl : Tryd.prog.cellsOf 3 = 1)] at q3
      obtain ⟨z0, e0, _, w0⟩ := DataW.trod_int Tryd.underlying3 g0
      obtain ⟨z1, e1, _, w1⟩ := DataW.trod_int Tryd.underlying3 g1
      obtain ⟨z2, e2, _, w2⟩ := DataW.trod_int Tryd.underlying3 q0
      obtain ⟨z3, e3, _, w3⟩ := DataW.trod_int Tryd.underlying3 q1
      obtain ⟨z4, e4, _, w4⟩ := DataW.trod_int Tryd.underlying3 q2
      obtain ⟨z5, e5, _, w5⟩ := DataW.trod_int Tryd.underlying3 q3
      obtain ⟨z6, e6, _, w6⟩ := DataW.trod_int Tryd.underlying3 g3
      obtain ⟨z7, e7, _⟩ := DataW.trod_bool Tryd.underlying4 g4
      simp at e0 e1 e2 e3 e4 e5 e6 e7
      subst e0 e1 e2 e3 e4 e5 e6 e7
      exact ⟨⟨z0, z1, z2, z3, z4, z5, z6, z7⟩, rfl, w1, w2, w3, w4, w5, w6⟩

end Go.Proofs.YtjholgpjicliaaaDoor
