/- Lists of ports: how they come in. -/
import Derived.Test.YtnpiljegdiconaaGreatRows
import Derived.WalkKit
import Derived.ProofKit
import Derived.OpenShut
import Derived.ShutString
import Derived.ChangeOld
import Derived.Below
import Derived.Deep.QuietTactic
import Derived.BigQuiet
import Derived.WalkSmall
import Derived.Laws.OwnMore
import Derived.WalkSpells
import Derived.WalkLawsBesides
import Derived.Deep.Slices
import Derived.Lib.SmallJoins
import Derived.Test.YtnpiljegdiconaaGreatFlat
import Derived.Test.YtnpiljegdiconaaGreatBridgeMath
import Derived.Test.YtnpiljegdiconaaGreatBase
namespace Go.Proofs.YtnpiljegdiconaaGreat
open Go.ChangeShapes Go.WideShapes Go.ChangeAt Go.RowKit
open Go.ChangeMaps (open_string shut_string)
set_option linter.unusedVariables false
set_option maxRecDepth 100000

def ptEnc (x : Pt) : List Value := [.bool x.up, .bool x.has, .int .i64 x.r, .int .i64 x.c, .int .i64 x.b, .int .i64 x.p, .int .i64 x.h, .int .i64 x.l, .int .i64 x.ro, .int .i64 x.wa, .bool x.op]
theorem ptEnc_len (x : Pt) : (ptEnc x).length = 11 := rfl
theorem ptEnc_ones (L : List Pt) : ∀ u ∈ fcells ptEnc L, u.oneCell' = true := by
  induction L with
  | nil => intro u h; cases h
  | cons x L ih =>
    intro u h
    simp only [fcells, ptEnc, List.mem_append, List.mem_cons, List.not_mem_nil, or_false] at h
    rcases h with (rfl | rfl | rfl | rfl | rfl | rfl | rfl | rfl | rfl | rfl | rfl) | h
    · rfl
    · rfl
    · rfl
    · rfl
    · rfl
    · rfl
    · rfl
    · rfl
    · rfl
    · rfl
    · rfl
    · exact ih u h
/-- What its cells hold, in a world. -/
structure PtAtO (w : World) (b o : Nat) (x : Pt) : Prop where
  c0 : w.cell? ⟨b, o, none⟩ = some (.bool x.up)
  c1 : w.cell? ⟨b, o + 1, none⟩ = some (.bool x.has)
  c2 : w.cell? ⟨b, o + 2, none⟩ = some (.int .i64 x.r)
  c3 : w.cell? ⟨b, o + 3, none⟩ = some (.int .i64 x.c)
  c4 : w.cell? ⟨b, o + 4, none⟩ = some (.int .i64 x.b)
  c5 : w.cell? ⟨b, o + 5, none⟩ = some (.int .i64 x.p)
  c6 : w.cell? ⟨b, o + 6, none⟩ = some (.int .i64 x.h)
  c7 : w.cell? ⟨b, o + 7, none⟩ = some (.int .i64 x.l)
  c8 : w.cell? ⟨b, o + 8, none⟩ = some (.int .i64 x.ro)
  c9 : w.cell? ⟨b, o + 9, none⟩ = some (.int .i64 x.wa)
  c10 : w.cell? ⟨b, o + 10, none⟩ = some (.bool x.op)
theorem ptAtO_of {w : World} {b o : Nat} {x : Pt} (h : ∀ j v, (ptEnc x)[j]? = some v → w.cell? ⟨b, o + j, none⟩ = some v) : PtAtO w b o x := ⟨h 0 _ rfl, h 1 _ rfl, h 2 _ rfl, h 3 _ rfl, h 4 _ rfl, h 5 _ rfl, h 6 _ rfl, h 7 _ rfl, h 8 _ rfl, h 9 _ rfl, h 10 _ rfl⟩
theorem ptPut (w : World) (g o : Nat) (x : Pt) : putAll w g o (ptEnc x) = (((((((((((w.setCell ⟨g, o, none⟩ (.bool x.up)).setCell ⟨g, o + 1, none⟩ (.bool x.has)).setCell ⟨g, o + 2, none⟩ (.int .i64 x.r)).setCell ⟨g, o + 3, none⟩ (.int .i64 x.c)).setCell ⟨g, o + 4, none⟩ (.int .i64 x.b)).setCell ⟨g, o + 5, none⟩ (.int .i64 x.p)).setCell ⟨g, o + 6, none⟩ (.int .i64 x.h)).setCell ⟨g, o + 7, none⟩ (.int .i64 x.l)).setCell ⟨g, o + 8, none⟩ (.int .i64 x.ro)).setCell ⟨g, o + 9, none⟩ (.int .i64 x.wa)).setCell ⟨g, o + 10, none⟩ (.bool x.op)) := rfl
end Go.Proofs.YtnpiljegdiconaaGreat
