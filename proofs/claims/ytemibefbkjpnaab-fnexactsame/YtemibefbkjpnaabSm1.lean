/- Ports and links held against each other. -/
import Derived.Test.YtemibefbkjpnaabRows
import Derived.WalkKit
import Derived.ProofKit
import Derived.OpenShut
import Derived.ShutString
import Derived.ChangeOld
import Derived.Below
import Derived.Deep.QuietTactic
import Derived.BigQuiet
import Derived.WalkSmall
import Derived.Laws.OwnMore
import Derived.WalkSpells
import Derived.WalkLawsBesides
import Derived.Deep.Cut
import Derived.Laws.StructEq
import Derived.Test.YtemibefbkjpnaabNm0
import Derived.Test.YtemibefbkjpnaabPort2
namespace Go.Proofs.Ytemibefbkjpnaab
open Go.ChangeShapes Go.WideShapes Go.ChangeAt Go.RowKit
open Go.ChangeMaps (open_string shut_string)
set_option linter.unusedVariables false
set_option maxRecDepth 100000

theorem ptEq_iff {x y : Pt} : ptEq x y = true ↔ x = y := by
  obtain ⟨a0, a1, a2, a3, a4, a5, a6, a7, a8, a9, a10⟩ := x
  obtain ⟨b0, b1, b2, b3, b4, b5, b6, b7, b8, b9, b10⟩ := y
  simp [ptEq]
theorem neqPt (x y : Pt) (w : World) : (binOp .neq 54 (.agg #[.bool x.up, .bool x.has, .int .i64 x.r, .int .i64 x.c, .int .i64 x.b, .int .i64 x.p, .int .i64 x.h, .int .i64 x.l, .int .i64 x.ro, .int .i64 x.wa, .bool x.op]) (.agg #[.bool y.up, .bool y.has, .int .i64 y.r, .int .i64 y.c, .int .i64 y.b, .int .i64 y.p, .int .i64 y.h, .int .i64 y.l, .int .i64 y.ro, .int .i64 y.wa, .bool y.op])).run Try.prog w = .ok (.bool (!ptEq x y)) w := by
  rw [run_neq_struct, eqPt]
  rfl
theorem neqPt_same (x : Pt) (w : World) : (binOp .neq 54 (.agg #[.bool x.up, .bool x.has, .int .i64 x.r, .int .i64 x.c, .int .i64 x.b, .int .i64 x.p, .int .i64 x.h, .int .i64 x.l, .int .i64 x.ro, .int .i64 x.wa, .bool x.op]) (.agg #[.bool x.up, .bool x.has, .int .i64 x.r, .int .i64 x.c, .int .i64 x.b, .int .i64 x.p, .int .i64 x.h, .int .i64 x.l, .int .i64 x.ro, .int .i64 x.wa, .bool x.op])).run Try.prog w = .ok (.bool false) w := by
  rw [neqPt, ptEq_refl]; rfl
theorem neqPt_else {x y : Pt} (h : x ≠ y) (w : World) : (binOp .neq 54 (.agg #[.bool x.up, .bool x.has, .int .i64 x.r, .int .i64 x.c, .int .i64 x.b, .int .i64 x.p, .int .i64 x.h, .int .i64 x.l, .int .i64 x.ro, .int .i64 x.wa, .bool x.op]) (.agg #[.bool y.up, .bool y.has, .int .i64 y.r, .int .i64 y.c, .int .i64 y.b, .int .i64 y.p, .int .i64 y.h, .int .i64 y.l, .int .i64 y.ro, .int .i64 y.wa, .bool y.op])).run Try.prog w = .ok (.bool true) w := by
  rw [neqPt]
  have : ptEq x y = false := by
    rcases Bool.eq_false_or_eq_true (ptEq x y) with q | q
    · exact absurd (ptEq_iff.1 q) h
    · exact q
  rw [this]; rfl
theorem neqLk_same (x : Lk) (w : World) : (binOp .neq 41 (.agg #[.int .i64 x.a, .int .i64 x.p, .int .i64 x.b, .int .i64 x.q]) (.agg #[.int .i64 x.a, .int .i64 x.p, .int .i64 x.b, .int .i64 x.q])).run Try.prog w = .ok (.bool false) w := by
  simp [go_sem]
theorem neqLk_else {x y : Lk} (h : x ≠ y) (w : World) : (binOp .neq 41 (.agg #[.int .i64 x.a, .int .i64 x.p, .int .i64 x.b, .int .i64 x.q]) (.agg #[.int .i64 y.a, .int .i64 y.p, .int .i64 y.b, .int .i64 y.q])).run Try.prog w = .ok (.bool true) w := by
  by_cases h0 : x.a = y.a
  · by_cases h1 : x.p = y.p
    · by_cases h2 : x.b = y.b
      · by_cases h3 : x.q = y.q
        · exact absurd (by cases x; cases y; simp_all) h
        · simp [go_sem, h0, h1, h2, h3]
      · simp [go_sem, h0, h1, h2]
    · simp [go_sem, h0, h1]
  · simp [go_sem, h0]

end Go.Proofs.Ytemibefbkjpnaab
