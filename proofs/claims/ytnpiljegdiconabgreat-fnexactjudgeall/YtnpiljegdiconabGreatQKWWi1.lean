import Derived.Test.YtnpiljegdiconabGreatQKWBxd3
namespace Go.Proofs.YtnpiljegdiconabGreat
open Go.ChangeShapes Go.WideShapes Go.ChangeAt Go.RowKit
open Go.ChangeMaps (open_string shut_string)
set_option linter.unusedVariables false
set_option maxRecDepth 100000
theorem wiPut (w : World) (g o : Nat) (x : Wi) : putAll w g o (wiEnc x) = ((((((((((((w.setCell ⟨g, o, none⟩ (.int .i64 x.fr)).setCell ⟨g, o + 1, none⟩ (.bool x.ak)).setCell ⟨g, o + 2, none⟩ (.int .i64 x.li)).setCell ⟨g, o + 3, none⟩ (.int .i64 x.n)).setCell ⟨g, o + 4, none⟩ (.int .i64 x.x.k)).setCell ⟨g, o + 5, none⟩ (.int .i64 x.x.q)).setCell ⟨g, o + 6, none⟩ (.int .i64 x.x.r)).setCell ⟨g, o + 7, none⟩ (.int .i64 x.x.c)).setCell ⟨g, o + 8, none⟩ (.int .i64 x.x.b)).setCell ⟨g, o + 9, none⟩ (.int .i64 x.x.p)).setCell ⟨g, o + 10, none⟩ (.int .i64 x.x.h)).setCell ⟨g, o + 11, none⟩ (.bool x.x.up)) := rfl
set_option maxHeartbeats 2000000 in
theorem toWiI (x : Wi) (w : World) : Calls Tryz.prog 49 #[.agg #[.int .i64 x.fr, .bool x.ak, .int .i64 x.li, .int .i64 x.n, .int .i64 x.x.k, .int .i64 x.x.q, .int .i64 x.x.r, .int .i64 x.x.c, .int .i64 x.x.b, .int .i64 x.x.p, .int .i64 x.x.h, .bool x.x.up]] w fun e w' => e = .returned (.agg #[.int .i64 x.fr, .bool x.ak, .int .i64 x.li, .int .i64 x.n, .int .i64 x.x.k, .int .i64 x.x.q, .int .i64 x.x.r, .int .i64 x.x.c, .int .i64 x.x.b, .int .i64 x.x.p, .int .i64 x.x.h, .bool x.x.up]) ∧ Below w.heap.size w w' := by
 obtain ⟨w0, hw0⟩ := mk_ (((w.alloc (Obj.cells #[.int .i64 x.fr, .bool x.ak, .int .i64 x.li, .int .i64 x.n, .int .i64 x.x.k, .int .i64 x.x.q, .int .i64 x.x.r, .int .i64 x.x.c, .int .i64 x.x.b, .int .i64 x.x.p, .int .i64 x.x.h, .bool x.x.up] 89)).alloc (Obj.cells #[.int .i64 0, .bool false, .int .i64 0, .int .i64 0, .int .i64 0, .int .i64 0, .int .i64 0, .int .i64 0, .int .i64 0, .int .i64 0, .int .i64 0, .bool false] 83)).alloc (Obj.cells #[.int .i64 x.fr, .bool x.ak, .int .i64 x.li, .int .i64 x.n, .int .i64 0, .int .i64 0, .int .i64 0, .int .i64 0, .int .i64 0, .int .i64 0, .int .i64 0, .bool false] 83))
 have b0 : Below w.heap.size w w0 := by rw [hw0]; exact (((Below.refl _ _).alloc (Nat.le_refl _) _).alloc (by simp) _).alloc (by simp; omega) _
 have P0 : WiAt w0 w.heap.size x := by rw [hw0]; constructor <;> simp [go_sem]
 have Q0 : WiAt w0 (w.heap.size + 1) Wi.nil := by rw [hw0]; constructor <;> simp [go_sem, Wi.nil, ikN]
 have R0 : WiAt w0 (w.heap.size + 1 + 1) ⟨x.fr, x.ak, x.li, x.n, ⟨0, 0, 0, 0, 0, 0, 0, false⟩⟩ := by rw [hw0]; constructor <;> simp [go_sem]
 have QF : ∀ i, w0.frozen? ⟨w.heap.size + 1, i, none⟩ = false := fun i => by rw [hw0]; simp [go_sem]
 have RF : ∀ i, w0.frozen? ⟨w.heap.size + 1 + 1, i, none⟩ = false := fun i => by rw [hw0]; simp [go_sem]
 have S0 := R0.lt
 go_enter Tryz.func49, Tryz.ntmps49
 go_wp2_with fail
 go_at_call 50
 rw [← hw0]
 clear hw0
 refine (toInI x.x w0).mono ?_
 rintro e w1 ⟨rfl, k1⟩
 have b1 := b0.trans (k1.mono b0.size)
 obtain ⟨p0, p1, p2, p3, p4, p5, p6, p7, p8, p9, p10, p11⟩ := P0.below k1 (by omega)
 obtain ⟨r0, r1, r2, r3, r4, r5, r6, r7, r8, r9, r10, r11⟩ := R0.below k1 (by omega)
 obtain ⟨q0, q1, q2, q3, q4, q5, q6, q7, q8, q9, q10, q11⟩ := Q0.below k1 (by omega)
 have qf0 : w1.frozen? ⟨w.heap.size + 1, 0, none⟩ = false := (World.frozen?_of_block (a := ⟨w.heap.size + 1, 0, none⟩) (k1.block (w.heap.size + 1) (by omega))).trans (QF 0)
 have rf0 : w1.frozen? ⟨w.heap.size + 1 + 1, 0, none⟩ = false := (World.frozen?_of_block (a := ⟨w.heap.size + 1 + 1, 0, none⟩) (k1.block (w.heap.size + 1 + 1) (by omega))).trans (RF 0)
 have qf1 : w1.frozen? ⟨w.heap.size + 1, 1, none⟩ = false := (World.frozen?_of_block (a := ⟨w.heap.size + 1, 1, none⟩) (k1.block (w.heap.size + 1) (by omega))).trans (QF 1)
 have rf1 : w1.frozen? ⟨w.heap.size + 1 + 1, 1, none⟩ = false := (World.frozen?_of_block (a := ⟨w.heap.size + 1 + 1, 1, none⟩) (k1.block (w.heap.size + 1 + 1) (by omega))).trans (RF 1)
 have qf2 : w1.frozen? ⟨w.heap.size + 1, 2, none⟩ = false := (World.frozen?_of_block (a := ⟨w.heap.size + 1, 2, none⟩) (k1.block (w.heap.size + 1) (by omega))).trans (QF 2)
 have rf2 : w1.frozen? ⟨w.heap.size + 1 + 1, 2, none⟩ = false := (World.frozen?_of_block (a := ⟨w.heap.size + 1 + 1, 2, none⟩) (k1.block (w.heap.size + 1 + 1) (by omega))).trans (RF 2)
 have qf3 : w1.frozen? ⟨w.heap.size + 1, 3, none⟩ = false := (World.frozen?_of_block (a := ⟨w.heap.size + 1, 3, none⟩) (k1.block (w.heap.size + 1) (by omega))).trans (QF 3)
 have rf3 : w1.frozen? ⟨w.heap.size + 1 + 1, 3, none⟩ = false := (World.frozen?_of_block (a := ⟨w.heap.size + 1 + 1, 3, none⟩) (k1.block (w.heap.size + 1 + 1) (by omega))).trans (RF 3)
 have qf4 : w1.frozen? ⟨w.heap.size + 1, 4, none⟩ = false := (World.frozen?_of_block (a := ⟨w.heap.size + 1, 4, none⟩) (k1.block (w.heap.size + 1) (by omega))).trans (QF 4)
 have rf4 : w1.frozen? ⟨w.heap.size + 1 + 1, 4, none⟩ = false := (World.frozen?_of_block (a := ⟨w.heap.size + 1 + 1, 4, none⟩) (k1.block (w.heap.size + 1 + 1) (by omega))).trans (RF 4)
 have qf5 : w1.frozen? ⟨w.heap.size + 1, 5, none⟩ = false := (World.frozen?_of_block (a := ⟨w.heap.size + 1, 5, none⟩) (k1.block (w.heap.size + 1) (by omega))).trans (QF 5)
 have rf5 : w1.frozen? ⟨w.heap.size + 1 + 1, 5, none⟩ = false := (World.frozen?_of_block (a := ⟨w.heap.size + 1 + 1, 5, none⟩) (k1.block (w.heap.size + 1 + 1) (by omega))).trans (RF 5)
 have qf6 : w1.frozen? ⟨w.heap.size + 1, 6, none⟩ = false := (World.frozen?_of_block (a := ⟨w.heap.size + 1, 6, none⟩) (k1.block (w.heap.size + 1) (by omega))).trans (QF 6)
 have rf6 : w1.frozen? ⟨w.heap.size + 1 + 1, 6, none⟩ = false := (World.frozen?_of_block (a := ⟨w.heap.size + 1 + 1, 6, none⟩) (k1.block (w.heap.size + 1 + 1) (by omega))).trans (RF 6)
 have qf7 : w1.frozen? ⟨w.heap.size + 1, 7, none⟩ = false := (World.frozen?_of_block (a := ⟨w.heap.size + 1, 7, none⟩) (k1.block (w.heap.size + 1) (by omega))).trans (QF 7)
 have rf7 : w1.frozen? ⟨w.heap.size + 1 + 1, 7, none⟩ = false := (World.frozen?_of_block (a := ⟨w.heap.size + 1 + 1, 7, none⟩) (k1.block (w.heap.size + 1 + 1) (by omega))).trans (RF 7)
 have qf8 : w1.frozen? ⟨w.heap.size + 1, 8, none⟩ = false := (World.frozen?_of_block (a := ⟨w.heap.size + 1, 8, none⟩) (k1.block (w.heap.size + 1) (by omega))).trans (QF 8)
 have rf8 : w1.frozen? ⟨w.heap.size + 1 + 1, 8, none⟩ = false := (World.frozen?_of_block (a := ⟨w.heap.size + 1 + 1, 8, none⟩) (k1.block (w.heap.size + 1 + 1) (by omega))).trans (RF 8)
 have qf9 : w1.frozen? ⟨w.heap.size + 1, 9, none⟩ = false := (World.frozen?_of_block (a := ⟨w.heap.size + 1, 9, none⟩) (k1.block (w.heap.size + 1) (by omega))).trans (QF 9)
 have rf9 : w1.frozen? ⟨w.heap.size + 1 + 1, 9, none⟩ = false := (World.frozen?_of_block (a := ⟨w.heap.size + 1 + 1, 9, none⟩) (k1.block (w.heap.size + 1 + 1) (by omega))).trans (RF 9)
 have qf10 : w1.frozen? ⟨w.heap.size + 1, 10, none⟩ = false := (World.frozen?_of_block (a := ⟨w.heap.size + 1, 10, none⟩) (k1.block (w.heap.size + 1) (by omega))).trans (QF 10)
 have rf10 : w1.frozen? ⟨w.heap.size + 1 + 1, 10, none⟩ = false := (World.frozen?_of_block (a := ⟨w.heap.size + 1 + 1, 10, none⟩) (k1.block (w.heap.size + 1 + 1) (by omega))).trans (RF 10)
 have qf11 : w1.frozen? ⟨w.heap.size + 1, 11, none⟩ = false := (World.frozen?_of_block (a := ⟨w.heap.size + 1, 11, none⟩) (k1.block (w.heap.size + 1) (by omega))).trans (QF 11)
 have rf11 : w1.frozen? ⟨w.heap.size + 1 + 1, 11, none⟩ = false := (World.frozen?_of_block (a := ⟨w.heap.size + 1 + 1, 11, none⟩) (k1.block (w.heap.size + 1 + 1) (by omega))).trans (RF 11)
 clear P0 R0 Q0 QF RF k1 b0
 go_wp2
 refine bodyPost_ret (v := .agg #[.int .i64 x.fr, .bool x.ak, .int .i64 x.li, .int .i64 x.n, .int .i64 x.x.k, .int .i64 x.x.q, .int .i64 x.x.r, .int .i64 x.x.c, .int .i64 x.x.b, .int .i64 x.x.p, .int .i64 x.x.h, .bool x.x.up]) (by simp [results, Tryz.results49, go_sem, *]) rfl ⟨rfl, ?_⟩
 repeat' (first | with_reducible exact b1 | refine Below.setCell ?_ (by first | (show _ ≤ w.heap.size + 1; omega) | (show _ ≤ w.heap.size + 1 + 1; omega)) _)
set_option maxHeartbeats 2000000 in
theorem eqWiI (x : Wi) (w : World) :
  Calls Tryz.prog 59 #[.agg #[.int .i64 x.fr, .bool x.ak, .int .i64 x.li, .int .i64 x.n, .int .i64 x.x.k, .int .i64 x.x.q, .int .i64 x.x.r, .int .i64 x.x.c, .int .i64 x.x.b, .int .i64 x.x.p, .int .i64 x.x.h, .bool x.x.up], .agg #[.int .i64 x.fr, .bool x.ak, .int .i64 x.li, .int .i64 x.n, .int .i64 x.x.k, .int .i64 x.x.q, .int .i64 x.x.r, .int .i64 x.x.c, .int .i64 x.x.b, .int .i64 x.x.p, .int .i64 x.x.h, .bool x.x.up]] w fun e w' => e = .returned (.bool true) ∧ Below w.heap.size w w' := by
 obtain ⟨w0, hw0⟩ := mk_ ((w.alloc (Obj.cells #[.int .i64 x.fr, .bool x.ak, .int .i64 x.li, .int .i64 x.n, .int .i64 x.x.k, .int .i64 x.x.q, .int .i64 x.x.r, .int .i64 x.x.c, .int .i64 x.x.b, .int .i64 x.x.p, .int .i64 x.x.h, .bool x.x.up] 83)).alloc (Obj.cells #[.int .i64 x.fr, .bool x.ak, .int .i64 x.li, .int .i64 x.n, .int .i64 x.x.k, .int .i64 x.x.q, .int .i64 x.x.r, .int .i64 x.x.c, .int .i64 x.x.b, .int .i64 x.x.p, .int .i64 x.x.h, .bool x.x.up] 83))
 have b0 : Below w.heap.size w w0 := by rw [hw0]; exact ((Below.refl _ _).alloc (Nat.le_refl _) _).alloc (by simp) _
 have P0 : WiAt w0 w.heap.size x := by rw [hw0]; constructor <;> simp [go_sem]
 have R0 : WiAt w0 (w.heap.size + 1) x := by rw [hw0]; constructor <;> simp [go_sem]
 have hle := R0.lt
 have hak : (x.ak != x.ak) = false := by simp
 go_enter Tryz.func59, Tryz.ntmps59
 go_wp2_with fail
 go_at_call 60
 rw [← hw0]
 clear hw0
 refine (eqInI x.x w0).mono ?_
 rintro e w1 ⟨rfl, k1⟩
 have b1 := b0.trans (k1.mono b0.size)
 clear P0 R0 k1 b0
 go_wp2
 go_ret
 exact ⟨rfl, b1⟩
end Go.Proofs.YtnpiljegdiconabGreat
