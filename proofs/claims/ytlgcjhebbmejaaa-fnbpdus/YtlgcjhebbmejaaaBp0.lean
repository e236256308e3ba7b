/- Bpdus: how they come in, compared. -/
import Derived.Test.YtlgcjhebbmejaaaRows
import Derived.WalkKit
import Derived.ProofKit
import Derived.OpenShut
import Derived.ShutString
import Derived.ChangeOld
import Derived.Below
import Derived.Deep.QuietTactic
import Derived.BigQuiet
import Derived.WalkSmall
import Derived.Laws.OwnMore
import Derived.WalkSpells
import Derived.WalkLawsBesides
import Derived.Deep.Cut
import Derived.Lib.SmallJoins
import Derived.Laws.StructEq
import Derived.Test.YtlgcjhebbmejaaaIn1x
import Derived.Test.YtlgcjhebbmejaaaVecIn
namespace Go.Proofs.Ytlgcjhebbmejaaa
open Go.ChangeShapes Go.WideShapes Go.ChangeAt Go.RowKit
open Go.ChangeMaps (open_string shut_string)
set_option linter.unusedVariables false
set_option maxRecDepth 100000

/-- A claim on the wire: eleven cells. -/
structure Bp where
  ch : Bool
  ak : Bool
  ag : Bool
  le : Bool
  op : Bool
  ro : Int
  r : Int
  c : Int
  b : Int
  p : Int
  h : Int
/-- Its box. -/
structure BpAt (w : World) (o : Nat) (x : Bp) : Prop where
  c0 : w.cell? ⟨o, 0, none⟩ = some (.bool x.ch)
  c1 : w.cell? ⟨o, 1, none⟩ = some (.bool x.ak)
  c2 : w.cell? ⟨o, 2, none⟩ = some (.bool x.ag)
  c3 : w.cell? ⟨o, 3, none⟩ = some (.bool x.le)
  c4 : w.cell? ⟨o, 4, none⟩ = some (.bool x.op)
  c5 : w.cell? ⟨o, 5, none⟩ = some (.int .i64 x.ro)
  c6 : w.cell? ⟨o, 6, none⟩ = some (.int .i64 x.r)
  c7 : w.cell? ⟨o, 7, none⟩ = some (.int .i64 x.c)
  c8 : w.cell? ⟨o, 8, none⟩ = some (.int .i64 x.b)
  c9 : w.cell? ⟨o, 9, none⟩ = some (.int .i64 x.p)
  c10 : w.cell? ⟨o, 10, none⟩ = some (.int .i64 x.h)
theorem BpAt.keep {w w' : World} {o : Nat} {x : Bp} (h : BpAt w o x) (k : w'.heap[o]? = w.heap[o]?) : BpAt w' o x :=
  ⟨(World.cell?_of_block (a := ⟨o, 0, none⟩) k).trans h.c0, (World.cell?_of_block (a := ⟨o, 1, none⟩) k).trans h.c1, (World.cell?_of_block (a := ⟨o, 2, none⟩) k).trans h.c2, (World.cell?_of_block (a := ⟨o, 3, none⟩) k).trans h.c3, (World.cell?_of_block (a := ⟨o, 4, none⟩) k).trans h.c4, (World.cell?_of_block (a := ⟨o, 5, none⟩) k).trans h.c5, (World.cell?_of_block (a := ⟨o, 6, none⟩) k).trans h.c6, (World.cell?_of_block (a := ⟨o, 7, none⟩) k).trans h.c7, (World.cell?_of_block (a := ⟨o, 8, none⟩) k).trans h.c8, (World.cell?_of_block (a := ⟨o, 9, none⟩) k).trans h.c9, (World.cell?_of_block (a := ⟨o, 10, none⟩) k).trans h.c10⟩
theorem BpAt.below {w w' : World} {o n : Nat} {x : Bp} (h : BpAt w o x) (k : Below n w w') (ho : o < n) : BpAt w' o x := h.keep (k.block o ho)
theorem BpAt.lt {w : World} {o : Nat} {x : Bp} (h : BpAt w o x) : o < w.heap.size := World.block_lt_of_cell? w _ h.c0
theorem BpAt.new (w : World) (t : TypeId) (x : Bp) : BpAt (w.alloc (Obj.cells #[.bool x.ch, .bool x.ak, .bool x.ag, .bool x.le, .bool x.op, .int .i64 x.ro, .int .i64 x.r, .int .i64 x.c, .int .i64 x.b, .int .i64 x.p, .int .i64 x.h] t)) w.heap.size x := by
  constructor <;> simp [go_sem]
set_option maxHeartbeats 2000000 in
theorem bpIn_open {H : Type} {enc : TypeId × Value → H} {w : World} {r : Reach} {b0 : Nat} {v : Value} {d : DataW H} {p : List MemPlace} (hv : Value.okWide Try.prog w r b0 44 v) (h : DataW.Trod enc Try.prog w 0 (fun _ => true) true 44 v d p) :
    ∃ x : Bp, v = .agg #[.bool x.ch, .bool x.ak, .bool x.ag, .bool x.le, .bool x.op, .int .i64 x.ro, .int .i64 x.r, .int .i64 x.c, .int .i64 x.b, .int .i64 x.p, .int .i64 x.h] ∧ True := by
  obtain ⟨cs, rfl, hsz⟩ := okWide_struct Try.underlying44 hv
  rw [(by kernel_rfl : Try.prog.cellsOf 44 = 11)] at hsz
  obtain ⟨cs⟩ := cs
  obtain ⟨fuel, hf0⟩ := h
  simp only [Value.cells] at hf0
  have hlen : cs.length = 11 := by simpa using hsz
  obtain ⟨xs, k, hk, hxy, _, hxl, hf⟩ := DataW.trod_struct Try.underlying44 hf0
  match xs, hxl, cs, hlen with
  | [y0, y1, y2, y3, y4, y5, y6, y7], _, [c0, c1, c2, c3, c4, c5, c6, c7, c8, c9, c10], _ =>
    have g0 : DataW.trod enc Try.prog w 0 (fun _ => true) true k 4 ((List.drop 0 [c0, c1, c2, c3, c4, c5, c6, c7, c8, c9, c10]).take (Try.prog.cellsOf 4)) = some y0 := hf 0 _ rfl
    rw [(by kernel_rfl : Try.prog.cellsOf 4 = 1)] at g0
    have g1 : DataW.trod enc Try.prog w 0 (fun _ => true) true k 4 ((List.drop 1 [c0, c1, c2, c3, c4, c5, c6, c7, c8, c9, c10]).take (Try.prog.cellsOf 4)) = some y1 := hf 1 _ rfl
    rw [(by kernel_rfl : Try.prog.cellsOf 4 = 1)] at g1
    have g2 : DataW.trod enc Try.prog w 0 (fun _ => true) true k 4 ((List.drop 2 [c0, c1, c2, c3, c4, c5, c6, c7, c8, c9, c10]).take (Try.prog.cellsOf 4)) = some y2 := hf 2 _ rfl
    rw [(by kernel_rfl : Try.prog.cellsOf 4 = 1)] at g2
    have g3 : DataW.trod enc Try.prog w 0 (fun _ => true) true k 4 ((List.drop 3 [c0, c1, c2, c3, c4, c5, c6, c7, c8, c9, c10]).take (Try.prog.cellsOf 4)) = some y3 := hf 3 _ rfl
    rw [(by kernel_rfl : Try.prog.cellsOf 4 = 1)] at g3
    have g4 : DataW.trod enc Try.prog w 0 (fun _ => true) true k 4 ((List.drop 4 [c0, c1, c2, c3, c4, c5, c6, c7, c8, c9, c10]).take (Try.prog.cellsOf 4)) = some y4 := hf 4 _ rfl
    rw [(by kernel_rfl : Try.prog.cellsOf 4 = 1)] at g4
    have g5 : DataW.trod enc Try.prog w 0 (fun _ => true) true k 3 ((List.drop 5 [c0, c1, c2, c3, c4, c5, c6, c7, c8, c9, c10]).take (Try.prog.cellsOf 3)) = some y5 := hf 5 _ rfl
    rw [(by kernel_rfl : Try.prog.cellsOf 3 = 1)] at g5
    have g6 : DataW.trod enc Try.prog w 0 (fun _ => true) true k 42 ((List.drop 6 [c0, c1, c2, c3, c4, c5, c6, c7, c8, c9, c10]).take (Try.prog.cellsOf 42)) = some y6 := hf 6 _ rfl
    rw [(by kernel_rfl : Try.prog.cellsOf 42 = 4)] at g6
    have g7 : DataW.trod enc Try.prog w 0 (fun _ => true) true k 3 ((List.drop 10 [c0, c1, c2, c3, c4, c5, c6, c7, c8, c9, c10]).take (Try.prog.cellsOf 3)) = some y7 := hf 7 _ rfl
    rw [(by kernel_rfl : Try.prog.cellsOf 3 = 1)] at g7
    obtain ⟨us, k2, hk2, hxy2, _, hul, hg⟩ := DataW.trod_struct Try.underlying42 g6
    match us, hul with
    | [u0, u1, u2, u3], _ =>
      have q0 : DataW.trod enc Try.prog w 0 (fun _ => true) true k2 3 ((List.drop 0 [c6, c7, c8, c9]).take (Try.prog.cellsOf 3)) = some u0 := hg 0 _ rfl
      rw [(by kernel_rfl : Try.prog.cellsOf 3 = 1)] at q0
      have q1 : DataW.trod enc Try.prog w 0 (fun _ => true) true k2 3 ((List.drop 1 [c6, c7, c8, c9]).take (Try.prog.cellsOf 3)) = some u1 := hg 1 _ rfl
      rw [(by kernel_rfl : Try.prog.cellsOf 3 = 1)] at q1
      have q2 : DataW.trod enc Try.prog w 0 (fun _ => true) true k2 3 ((List.drop 2 [c6, c7, c8, c9]).take (Try.prog.cellsOf 3)) = some u2 := hg 2 _ rfl
      rw [(by kernel_rfl : Try.prog.cellsOf 3 = 1)] at q2
      have q3 : DataW.trod enc Try.prog w 0 (fun _ => true) true k2 3 ((List.drop 3 [c6, c7, c8, c9]).take (Try.prog.cellsOf 3)) = some u3 := hg 3 _ rfl
      rw [(by kernel_rfl : Try.prog.cellsOf 3 = 1)] at q3
      obtain ⟨z0, e0, _⟩ := DataW.trod_bool Try.underlying4 g0
      obtain ⟨z1, e1, _⟩ := DataW.trod_bool Try.underlying4 g1
      obtain ⟨z2, e2, _⟩ := DataW.trod_bool Try.underlying4 g2
      obtain ⟨z3, e3, _⟩ := DataW.trod_bool Try.underlying4 g3
      obtain ⟨z4, e4, _⟩ := DataW.trod_bool Try.underlying4 g4
      obtain ⟨z5, e5, _, _⟩ := DataW.trod_int Try.underlying3 g5
      obtain ⟨z6, e6, _, _⟩ := DataW.trod_int Try.underlying3 q0
      obtain ⟨z7, e7, _, _⟩ := DataW.trod_int Try.underlying3 q1
      obtain ⟨z8, e8, _, _⟩ := DataW.trod_int Try.underlying3 q2
      obtain ⟨z9, e9, _, _⟩ := DataW.trod_int Try.underlying3 q3
      obtain ⟨z10, e10, _, _⟩ := DataW.trod_int Try.underlying3 g7
      simp at e0 e1 e2 e3 e4 e5 e6 e7 e8 e9 e10
      subst e0 e1 e2 e3 e4 e5 e6 e7 e8 e9 e10
      exact ⟨⟨z0, z1, z2, z3, z4, z5, z6, z7, z8, z9, z10⟩, rfl, trivial⟩
set_option maxHeartbeats 4000000 in
theorem toBpI (x : Bp) (w : World) : Calls Try.prog 26 #[.agg #[.bool x.ch, .bool x.ak, .bool x.ag, .bool x.le, .bool x.op, .int .i64 x.ro, .int .i64 x.r, .int .i64 x.c, .int .i64 x.b, .int .i64 x.p, .int .i64 x.h]] w fun e w' => e = .returned (.agg #[.bool x.ch, .bool x.ak, .bool x.ag, .bool x.le, .bool x.op, .int .i64 x.ro, .int .i64 x.r, .int .i64 x.c, .int .i64 x.b, .int .i64 x.p, .int .i64 x.h]) ∧ Below w.heap.size w w' := by
  obtain ⟨w0, hw0⟩ : ∃ w0, w0 = ((w.alloc (Obj.cells #[.bool x.ch, .bool x.ak, .bool x.ag, .bool x.le, .bool x.op, .int .i64 x.ro, .int .i64 x.r, .int .i64 x.c, .int .i64 x.b, .int .i64 x.p, .int .i64 x.h] 44)).alloc (Obj.cells #[.bool false, .bool false, .bool false, .bool false, .bool false, .int .i64 0, .int .i64 0, .int .i64 0, .int .i64 0, .int .i64 0, .int .i64 0] 27)).alloc (Obj.cells #[.bool x.ch, .bool x.ak, .bool x.ag, .bool x.le, .bool x.op, .int .i64 x.ro, .int .i64 0, .int .i64 0, .int .i64 0, .int .i64 0, .int .i64 0] 27) := ⟨_, rfl⟩
  have b0 : Below w.heap.size w w0 := by rw [hw0]; exact (((Below.refl _ _).alloc (Nat.le_refl _) _).alloc (by simp) _).alloc (by simp; omega) _
  have P0 : BpAt w0 w.heap.size x := by rw [hw0]; constructor <;> simp [go_sem]
  have Q0 : BpAt w0 (w.heap.size + 1) ⟨false, false, false, false, false, 0, 0, 0, 0, 0, 0⟩ := by rw [hw0]; constructor <;> simp [go_sem]
  have R0 : BpAt w0 (w.heap.size + 1 + 1) ⟨x.ch, x.ak, x.ag, x.le, x.op, x.ro, 0, 0, 0, 0, 0⟩ := by rw [hw0]; constructor <;> simp [go_sem]
  have QF : ∀ i, w0.frozen? ⟨w.heap.size + 1, i, none⟩ = false := fun i => by rw [hw0]; simp [go_sem]
  have RF : ∀ i, w0.frozen? ⟨w.heap.size + 1 + 1, i, none⟩ = false := fun i => by rw [hw0]; simp [go_sem]
  have S0 := R0.lt
  go_enter Try.func26, Try.ntmps26
  go_wp2_with fail
  go_at_call 53
  rw [← hw0]
  clear hw0
  refine (toV x.r x.c x.b x.p w0).mono ?_
  rintro e w1 ⟨rfl, k1⟩
  have b1 := b0.trans (k1.mono b0.size)
  obtain ⟨p0, p1, p2, p3, p4, p5, p6, p7, p8, p9, p10⟩ := P0.below k1 (by omega)
  obtain ⟨r0, r1, r2, r3, r4, r5, r6, r7, r8, r9, r10⟩ := R0.below k1 (by omega)
  obtain ⟨q0, q1, q2, q3, q4, q5, q6, q7, q8, q9, q10⟩ := Q0.below k1 (by omega)
  have qf0 : w1.frozen? ⟨w.heap.size + 1, 0, none⟩ = false := (World.frozen?_of_block (a := ⟨w.heap.size + 1, 0, none⟩) (k1.block (w.heap.size + 1) (by omega))).trans (QF 0)
  have rf0 : w1.frozen? ⟨w.heap.size + 1 + 1, 0, none⟩ = false := (World.frozen?_of_block (a := ⟨w.heap.size + 1 + 1, 0, none⟩) (k1.block (w.heap.size + 1 + 1) (by omega))).trans (RF 0)
  have qf1 : w1.frozen? ⟨w.heap.size + 1, 1, none⟩ = false := (World.frozen?_of_block (a := ⟨w.heap.size + 1, 1, none⟩) (k1.block (w.heap.size + 1) (by omega))).trans (QF 1)
  have rf1 : w1.frozen? ⟨w.heap.size + 1 + 1, 1, none⟩ = false := (World.frozen?_of_block (a := ⟨w.heap.size + 1 + 1, 1, none⟩) (k1.block (w.heap.size + 1 + 1) (by omega))).trans (RF 1)
  have qf2 : w1.frozen? ⟨w.heap.size + 1, 2, none⟩ = false := (World.frozen?_of_block (a := ⟨w.heap.size + 1, 2, none⟩) (k1.block (w.heap.size + 1) (by omega))).trans (QF 2)
  have rf2 : w1.frozen? ⟨w.heap.size + 1 + 1, 2, none⟩ = false := (World.frozen?_of_block (a := ⟨w.heap.size + 1 + 1, 2, none⟩) (k1.block (w.heap.size + 1 + 1) (by omega))).trans (RF 2)
  have qf3 : w1.frozen? ⟨w.heap.size + 1, 3, none⟩ = false := (World.frozen?_of_block (a := ⟨w.heap.size + 1, 3, none⟩) (k1.block (w.heap.size + 1) (by omega))).trans (QF 3)
  have rf3 : w1.frozen? ⟨w.heap.size + 1 + 1, 3, none⟩ = false := (World.frozen?_of_block (a := ⟨w.heap.size + 1 + 1, 3, none⟩) (k1.block (w.heap.size + 1 + 1) (by omega))).trans (RF 3)
  have qf4 : w1.frozen? ⟨w.heap.size + 1, 4, none⟩ = false := (World.frozen?_of_block (a := ⟨w.heap.size + 1, 4, none⟩) (k1.block (w.heap.size + 1) (by omega))).trans (QF 4)
  have rf4 : w1.frozen? ⟨w.heap.size + 1 + 1, 4, none⟩ = false := (World.frozen?_of_block (a := ⟨w.heap.size + 1 + 1, 4, none⟩) (k1.block (w.heap.size + 1 + 1) (by omega))).trans (RF 4)
  have qf5 : w1.frozen? ⟨w.heap.size + 1, 5, none⟩ = false := (World.frozen?_of_block (a := ⟨w.heap.size + 1, 5, none⟩) (k1.block (w.heap.size + 1) (by omega))).trans (QF 5)
  have rf5 : w1.frozen? ⟨w.heap.size + 1 + 1, 5, none⟩ = false := (World.frozen?_of_block (a := ⟨w.heap.size + 1 + 1, 5, none⟩) (k1.block (w.heap.size + 1 + 1) (by omega))).trans (RF 5)
  have qf6 : w1.frozen? ⟨w.heap.size + 1, 6, none⟩ = false := (World.frozen?_of_block (a := ⟨w.heap.size + 1, 6, none⟩) (k1.block (w.heap.size + 1) (by omega))).trans (QF 6)
  have rf6 : w1.frozen? ⟨w.heap.size + 1 + 1, 6, none⟩ = false := (World.frozen?_of_block (a := ⟨w.heap.size + 1 + 1, 6, none⟩) (k1.block (w.heap.size + 1 + 1) (by omega))).trans (RF 6)
  have qf7 : w1.frozen? ⟨w.heap.size + 1, 7, none⟩ = false := (World.frozen?_of_block (a := ⟨w.heap.size + 1, 7, none⟩) (k1.block (w.heap.size + 1) (by omega))).trans (QF 7)
  have rf7 : w1.frozen? ⟨w.heap.size + 1 + 1, 7, none⟩ = false := (World.frozen?_of_block (a := ⟨w.heap.size + 1 + 1, 7, none⟩) (k1.block (w.heap.size + 1 + 1) (by omega))).trans (RF 7)
  have qf8 : w1.frozen? ⟨w.heap.size + 1, 8, none⟩ = false := (World.frozen?_of_block (a := ⟨w.heap.size + 1, 8, none⟩) (k1.block (w.heap.size + 1) (by omega))).trans (QF 8)
  have rf8 : w1.frozen? ⟨w.heap.size + 1 + 1, 8, none⟩ = false := (World.frozen?_of_block (a := ⟨w.heap.size + 1 + 1, 8, none⟩) (k1.block (w.heap.size + 1 + 1) (by omega))).trans (RF 8)
  have qf9 : w1.frozen? ⟨w.heap.size + 1, 9, none⟩ = false := (World.frozen?_of_block (a := ⟨w.heap.size + 1, 9, none⟩) (k1.block (w.heap.size + 1) (by omega))).trans (QF 9)
  have rf9 : w1.frozen? ⟨w.heap.size + 1 + 1, 9, none⟩ = false := (World.frozen?_of_block (a := ⟨w.heap.size + 1 + 1, 9, none⟩) (k1.block (w.heap.size + 1 + 1) (by omega))).trans (RF 9)
  have qf10 : w1.frozen? ⟨w.heap.size + 1, 10, none⟩ = false := (World.frozen?_of_block (a := ⟨w.heap.size + 1, 10, none⟩) (k1.block (w.heap.size + 1) (by omega))).trans (QF 10)
  have rf10 : w1.frozen? ⟨w.heap.size + 1 + 1, 10, none⟩ = false := (World.frozen?_of_block (a := ⟨w.heap.size + 1 + 1, 10, none⟩) (k1.block (w.heap.size + 1 + 1) (by omega))).trans (RF 10)
  clear P0 R0 Q0 QF RF k1 b0
  go_wp2
  refine bodyPost_ret (v := .agg #[.bool x.ch, .bool x.ak, .bool x.ag, .bool x.le, .bool x.op, .int .i64 x.ro, .int .i64 x.r, .int .i64 x.c, .int .i64 x.b, .int .i64 x.p, .int .i64 x.h]) (by simp [results, Try.results26, go_sem, *]) rfl ⟨rfl, ?_⟩
  repeat' (first | with_reducible exact b1 | refine Below.setCell ?_ (by first | (show _ ≤ w.heap.size + 1; omega) | (show _ ≤ w.heap.size + 1 + 1; omega)) _)
set_option maxHeartbeats 4000000 in
theorem eqBpI (x : Bp) (w : World) : Calls Try.prog 31 #[.agg #[.bool x.ch, .bool x.ak, .bool x.ag, .bool x.le, .bool x.op, .int .i64 x.ro, .int .i64 x.r, .int .i64 x.c, .int .i64 x.b, .int .i64 x.p, .int .i64 x.h], .agg #[.bool x.ch, .bool x.ak, .bool x.ag, .bool x.le, .bool x.op, .int .i64 x.ro, .int .i64 x.r, .int .i64 x.c, .int .i64 x.b, .int .i64 x.p, .int .i64 x.h]] w fun e w' => e = .returned (.bool true) ∧ Below w.heap.size w w' := by
  obtain ⟨w0, hw0⟩ : ∃ w0, w0 = (w.alloc (Obj.cells #[.bool x.ch, .bool x.ak, .bool x.ag, .bool x.le, .bool x.op, .int .i64 x.ro, .int .i64 x.r, .int .i64 x.c, .int .i64 x.b, .int .i64 x.p, .int .i64 x.h] 27)).alloc (Obj.cells #[.bool x.ch, .bool x.ak, .bool x.ag, .bool x.le, .bool x.op, .int .i64 x.ro, .int .i64 x.r, .int .i64 x.c, .int .i64 x.b, .int .i64 x.p, .int .i64 x.h] 27) := ⟨_, rfl⟩
  have b0 : Below w.heap.size w w0 := by rw [hw0]; exact ((Below.refl _ _).alloc (Nat.le_refl _) _).alloc (by simp) _
  have P0 : BpAt w0 w.heap.size x := by rw [hw0]; constructor <;> simp [go_sem]
  have R0 : BpAt w0 (w.heap.size + 1) x := by rw [hw0]; constructor <;> simp [go_sem]
  have hle : w.heap.size + 1 < w0.heap.size := R0.lt
  go_enter Try.func31, Try.ntmps31
  go_wp2_with fail
  go_at_call 54
  rw [← hw0]
  clear hw0
  refine (eqVs x.r x.c x.b x.p w0).mono ?_
  rintro e w1 ⟨rfl, k1⟩
  have b1 := b0.trans (k1.mono b0.size)
  obtain ⟨p0, p1, p2, p3, p4, p5, p6, p7, p8, p9, p10⟩ := P0.below k1 (by omega)
  obtain ⟨r0, r1, r2, r3, r4, r5, r6, r7, r8, r9, r10⟩ := R0.below k1 (by omega)
  clear P0 R0 k1 b0
  go_wp2
  go_ret
  exact ⟨rfl, b1⟩

end Go.Proofs.Ytlgcjhebbmejaaa
