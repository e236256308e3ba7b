import Derived.Test.YtnpiljegdiconabGreatQM4
import Derived.Test.YtnpiljegdiconabGreatProg
import Derived.Conc.MuLone
import Derived.KernelRfl
import Derived.Laws.LoneSync
namespace Go.Proofs.YtnpiljegdiconabGreat
open Go.ChangeShapes Go.WideShapes Go.ChangeAt Go.RowKit
open Go.ChangeMaps (open_string shut_string)
set_option linter.unusedVariables false
set_option maxRecDepth 100000
def Ik.nil : Ik := ⟨0, 0, 0, 0, 0, 0, 0, false⟩
def ikEnc (x : Ik) : List Value := [.int .i64 x.k, .int .i64 x.q, .int .i64 x.r, .int .i64 x.c, .int .i64 x.b, .int .i64 x.p, .int .i64 x.h, .bool x.up]
theorem ikEnc_len (x : Ik) : (ikEnc x).length = 8 := rfl
theorem ikEnc_ones (L : List Ik) : ∀ u ∈ fcells ikEnc L, u.oneCell' = true := by
 induction L with
 | nil => intro u h; cases h
 | cons x L ih =>
  intro u h
  simp only [fcells, ikEnc, List.mem_append, List.mem_cons, List.not_mem_nil, or_false] at h
  rcases h with (rfl | rfl | rfl | rfl | rfl | rfl | rfl | rfl) | h
  ·
   rfl
  ·
   rfl
  ·
   rfl
  ·
   rfl
  ·
   rfl
  ·
   rfl
  ·
   rfl
  ·
   rfl
  ·
   exact ih u h
structure IkAtO (w : World) (b o : Nat) (x : Ik) : Prop where
 c0 : w.cell? ⟨b, o, none⟩ = some (.int .i64 x.k)
 c1 : w.cell? ⟨b, o + 1, none⟩ = some (.int .i64 x.q)
 c2 : w.cell? ⟨b, o + 2, none⟩ = some (.int .i64 x.r)
 c3 : w.cell? ⟨b, o + 3, none⟩ = some (.int .i64 x.c)
 c4 : w.cell? ⟨b, o + 4, none⟩ = some (.int .i64 x.b)
 c5 : w.cell? ⟨b, o + 5, none⟩ = some (.int .i64 x.p)
 c6 : w.cell? ⟨b, o + 6, none⟩ = some (.int .i64 x.h)
 c7 : w.cell? ⟨b, o + 7, none⟩ = some (.bool x.up)
theorem ikAtO_of {w : World} {b o : Nat} {x : Ik} (h : ∀ j v, (ikEnc x)[j]? = some v → w.cell? ⟨b, o + j, none⟩ = some v) : IkAtO w b o x := ⟨h 0 _ rfl, h 1 _ rfl, h 2 _ rfl, h 3 _ rfl, h 4 _ rfl, h 5 _ rfl, h 6 _ rfl, h 7 _ rfl⟩
theorem ikPut (w : World) (g o : Nat) (x : Ik) : putAll w g o (ikEnc x) = ((((((((w.setCell ⟨g, o, none⟩ (.int .i64 x.k)).setCell ⟨g, o + 1, none⟩ (.int .i64 x.q)).setCell ⟨g, o + 2, none⟩ (.int .i64 x.r)).setCell ⟨g, o + 3, none⟩ (.int .i64 x.c)).setCell ⟨g, o + 4, none⟩ (.int .i64 x.b)).setCell ⟨g, o + 5, none⟩ (.int .i64 x.p)).setCell ⟨g, o + 6, none⟩ (.int .i64 x.h)).setCell ⟨g, o + 7, none⟩ (.bool x.up)) := rfl
theorem IkAtO.below {w w' : World} {q o n : Nat} {x : Ik} (h : IkAtO w q o x) (k : Below n w w') (hq : q < n) : IkAtO w' q o x :=
 ⟨(World.cell?_of_block (a := ⟨q, o, none⟩) (k.block q hq)).trans h.c0, (World.cell?_of_block (a := ⟨q, o + 1, none⟩) (k.block q hq)).trans h.c1, (World.cell?_of_block (a := ⟨q, o + 2, none⟩) (k.block q hq)).trans h.c2, (World.cell?_of_block (a := ⟨q, o + 3, none⟩) (k.block q hq)).trans h.c3, (World.cell?_of_block (a := ⟨q, o + 4, none⟩) (k.block q hq)).trans h.c4, (World.cell?_of_block (a := ⟨q, o + 5, none⟩) (k.block q hq)).trans h.c5, (World.cell?_of_block (a := ⟨q, o + 6, none⟩) (k.block q hq)).trans h.c6, (World.cell?_of_block (a := ⟨q, o + 7, none⟩) (k.block q hq)).trans h.c7⟩
set_option maxHeartbeats 2000000 in
theorem eqInI (x : Ik) (w : World) :
  Calls Tryz.prog 60 #[.agg #[.int .i64 x.k, .int .i64 x.q, .int .i64 x.r, .int .i64 x.c, .int .i64 x.b, .int .i64 x.p, .int .i64 x.h, .bool x.up], .agg #[.int .i64 x.k, .int .i64 x.q, .int .i64 x.r, .int .i64 x.c, .int .i64 x.b, .int .i64 x.p, .int .i64 x.h, .bool x.up]] w fun e w' => e = .returned (.bool true) ∧ Below w.heap.size w w' := by
 obtain ⟨w0, hw0⟩ := mk_ ((w.alloc (Obj.cells #[.int .i64 x.k, .int .i64 x.q, .int .i64 x.r, .int .i64 x.c, .int .i64 x.b, .int .i64 x.p, .int .i64 x.h, .bool x.up] 80)).alloc (Obj.cells #[.int .i64 x.k, .int .i64 x.q, .int .i64 x.r, .int .i64 x.c, .int .i64 x.b, .int .i64 x.p, .int .i64 x.h, .bool x.up] 80))
 have b0 : Below w.heap.size w w0 := by rw [hw0]; exact ((Below.refl _ _).alloc (Nat.le_refl _) _).alloc (by simp) _
 have P0 : IkAtO w0 w.heap.size 0 x := by rw [hw0]; constructor <;> simp [go_sem]
 have R0 : IkAtO w0 (w.heap.size + 1) 0 x := by rw [hw0]; constructor <;> simp [go_sem]
 have hle : w.heap.size + 1 < w0.heap.size := World.block_lt_of_cell? w0 _ R0.c0
 go_enter Tryz.func60, Tryz.ntmps60
 go_wp2_with fail
 go_at_call 85
 rw [← hw0]
 clear hw0
 refine (eqVs x.r x.c x.b x.p w0).mono ?_
 rintro e w1 ⟨rfl, k1⟩
 have b1 := b0.trans (k1.mono b0.size)
 obtain ⟨p0, p1, p2, p3, p4, p5, p6, p7⟩ := P0.below k1 (by omega)
 obtain ⟨r0, r1, r2, r3, r4, r5, r6, r7⟩ := R0.below k1 (by omega)
 simp only [Nat.zero_add] at p0 r0 p1 r1 p2 r2 p3 r3 p4 r4 p5 r5 p6 r6 p7 r7
 clear P0 R0 k1 b0
 go_wp2
 go_ret
 exact ⟨rfl, b1⟩
structure MiAt (w : World) (q : Nat) (m : Mi) (v : Value) : Prop where
 c0 : w.cell? ⟨q, 0, none⟩ = some (.bool m.up)
 c1 : w.cell? ⟨q, 1, none⟩ = some (.int .i64 m.li)
 c2 : w.cell? ⟨q, 2, none⟩ = some (.int .i64 m.ep)
 c3 : w.cell? ⟨q, 3, none⟩ = some (v)
 c4 : w.cell? ⟨q, 4, none⟩ = some (.int .i64 m.sd)
 c5 : w.cell? ⟨q, 5, none⟩ = some (.int .i64 m.ac)
 c6 : w.cell? ⟨q, 6, none⟩ = some (.int .i64 m.al)
theorem MiAt.keep {w w' : World} {q : Nat} {m : Mi} {v : Value} (h : MiAt w q m v) (k : w'.heap[q]? = w.heap[q]?) : MiAt w' q m v :=
 ⟨(World.cell?_of_block (a := ⟨q, 0, none⟩) k).trans h.c0, (World.cell?_of_block (a := ⟨q, 1, none⟩) k).trans h.c1, (World.cell?_of_block (a := ⟨q, 2, none⟩) k).trans h.c2, (World.cell?_of_block (a := ⟨q, 3, none⟩) k).trans h.c3, (World.cell?_of_block (a := ⟨q, 4, none⟩) k).trans h.c4, (World.cell?_of_block (a := ⟨q, 5, none⟩) k).trans h.c5, (World.cell?_of_block (a := ⟨q, 6, none⟩) k).trans h.c6⟩
theorem MiAt.below {w w' : World} {q n : Nat} {m : Mi} {v : Value} (h : MiAt w q m v) (k : Below n w w') (hq : q < n) : MiAt w' q m v := h.keep (k.block q hq)
theorem MiAt.lt {w : World} {q : Nat} {m : Mi} {v : Value} (h : MiAt w q m v) : q < w.heap.size := World.block_lt_of_cell? w _ h.c0
theorem MiAt.new (w : World) (t : TypeId) (m : Mi) (v : Value) : MiAt (w.alloc (Obj.cells #[.bool m.up, .int .i64 m.li, .int .i64 m.ep, v, .int .i64 m.sd, .int .i64 m.ac, .int .i64 m.al] t)) w.heap.size m v := by
 refine ⟨?_, ?_, ?_, ?_, ?_, ?_, ?_⟩ <;> simp [go_sem]
structure MiBox (w : World) (q : Nat) (m : Mi) (v : Value) : Prop where
 c0 : w.cell? ⟨q, 0, none⟩ = some (.bool m.up)
 c1 : w.cell? ⟨q, 1, none⟩ = some (.int .i64 m.li)
 c2 : w.cell? ⟨q, 2, none⟩ = some (.int .i64 m.ep)
 c3 : w.cell? ⟨q, 3, none⟩ = some (v)
 c4 : w.cell? ⟨q, 4, none⟩ = some (.int .i64 m.sd)
 c5 : w.cell? ⟨q, 5, none⟩ = some (.int .i64 m.ac)
 c6 : w.cell? ⟨q, 6, none⟩ = some (.int .i64 m.al)
 fr : ∀ i, w.frozen? ⟨q, i, none⟩ = false
theorem MiBox.keep {w w' : World} {q : Nat} {m : Mi} {v : Value} (h : MiBox w q m v) (k : w'.heap[q]? = w.heap[q]?) : MiBox w' q m v :=
 ⟨(World.cell?_of_block (a := ⟨q, 0, none⟩) k).trans h.c0, (World.cell?_of_block (a := ⟨q, 1, none⟩) k).trans h.c1, (World.cell?_of_block (a := ⟨q, 2, none⟩) k).trans h.c2, (World.cell?_of_block (a := ⟨q, 3, none⟩) k).trans h.c3, (World.cell?_of_block (a := ⟨q, 4, none⟩) k).trans h.c4, (World.cell?_of_block (a := ⟨q, 5, none⟩) k).trans h.c5, (World.cell?_of_block (a := ⟨q, 6, none⟩) k).trans h.c6, fun i => (World.frozen?_of_block (a := ⟨q, i, none⟩) k).trans (h.fr i)⟩
theorem MiBox.below {w w' : World} {q n : Nat} {m : Mi} {v : Value} (h : MiBox w q m v) (k : Below n w w') (hq : q < n) : MiBox w' q m v := h.keep (k.block q hq)
theorem MiBox.lt {w : World} {q : Nat} {m : Mi} {v : Value} (h : MiBox w q m v) : q < w.heap.size := World.block_lt_of_cell? w _ h.c0
structure MgBox (w : World) (q : Nat) (m : Mi) (v : Value) : Prop where
 c0 : w.cell? ⟨q, 0, none⟩ = some (v)
 c1 : w.cell? ⟨q, 1, none⟩ = some (.bool m.up)
 c2 : w.cell? ⟨q, 2, none⟩ = some (.int .i64 m.li)
 c3 : w.cell? ⟨q, 3, none⟩ = some (.int .i64 m.ep)
 c4 : w.cell? ⟨q, 4, none⟩ = some (.int .i64 m.sd)
 c5 : w.cell? ⟨q, 5, none⟩ = some (.int .i64 m.ac)
 c6 : w.cell? ⟨q, 6, none⟩ = some (.int .i64 m.al)
 fr : ∀ i, w.frozen? ⟨q, i, none⟩ = false
theorem MgBox.keep {w w' : World} {q : Nat} {m : Mi} {v : Value} (h : MgBox w q m v) (k : w'.heap[q]? = w.heap[q]?) : MgBox w' q m v :=
 ⟨(World.cell?_of_block (a := ⟨q, 0, none⟩) k).trans h.c0, (World.cell?_of_block (a := ⟨q, 1, none⟩) k).trans h.c1, (World.cell?_of_block (a := ⟨q, 2, none⟩) k).trans h.c2, (World.cell?_of_block (a := ⟨q, 3, none⟩) k).trans h.c3, (World.cell?_of_block (a := ⟨q, 4, none⟩) k).trans h.c4, (World.cell?_of_block (a := ⟨q, 5, none⟩) k).trans h.c5, (World.cell?_of_block (a := ⟨q, 6, none⟩) k).trans h.c6, fun i => (World.frozen?_of_block (a := ⟨q, i, none⟩) k).trans (h.fr i)⟩
theorem MgBox.below {w w' : World} {q n : Nat} {m : Mi} {v : Value} (h : MgBox w q m v) (k : Below n w w') (hq : q < n) : MgBox w' q m v := h.keep (k.block q hq)
theorem MgBox.lt {w : World} {q : Nat} {m : Mi} {v : Value} (h : MgBox w q m v) : q < w.heap.size := World.block_lt_of_cell? w _ h.c0
theorem MgBox.new (w : World) (t : TypeId) (m : Mi) (v : Value) : MgBox (w.alloc (Obj.cells #[v, .bool m.up, .int .i64 m.li, .int .i64 m.ep, .int .i64 m.sd, .int .i64 m.ac, .int .i64 m.al] t)) w.heap.size m v := by
 refine ⟨?_, ?_, ?_, ?_, ?_, ?_, ?_, ?_⟩ <;> simp [go_sem]
theorem MgBox.log {w : World} {q : Nat} {m : Mi} {v : Value} (h : MgBox w q m v) (v' : Value) : MgBox (w.setCell ⟨q, 0, none⟩ v') q m v' :=
 ⟨pset_same h.c0, (pset_else (by decide)).trans h.c1, (pset_else (by decide)).trans h.c2, (pset_else (by decide)).trans h.c3, (pset_else (by decide)).trans h.c4, (pset_else (by decide)).trans h.c5, (pset_else (by decide)).trans h.c6, fun i => by rw [World.frozen?_setCell]; exact h.fr i⟩
def Wi.nil : Wi := ⟨0, false, 0, 0, ikN⟩
structure MiD where
 m : Mi
 ad : Option Addr
 cap : Nat
def MiD.nil : MiD := ⟨Mi.nil, none, 0⟩
def wiEnc (x : Wi) : List Value := [.int .i64 x.fr, .bool x.ak, .int .i64 x.li, .int .i64 x.n, .int .i64 x.x.k, .int .i64 x.x.q, .int .i64 x.x.r, .int .i64 x.x.c, .int .i64 x.x.b, .int .i64 x.x.p, .int .i64 x.x.h, .bool x.x.up]
theorem wiEnc_len (x : Wi) : (wiEnc x).length = 12 := rfl
structure WiAtO (w : World) (b o : Nat) (x : Wi) : Prop where
 c0 : w.cell? ⟨b, o, none⟩ = some (.int .i64 x.fr)
 c1 : w.cell? ⟨b, o + 1, none⟩ = some (.bool x.ak)
 c2 : w.cell? ⟨b, o + 2, none⟩ = some (.int .i64 x.li)
 c3 : w.cell? ⟨b, o + 3, none⟩ = some (.int .i64 x.n)
 c4 : w.cell? ⟨b, o + 4, none⟩ = some (.int .i64 x.x.k)
 c5 : w.cell? ⟨b, o + 5, none⟩ = some (.int .i64 x.x.q)
 c6 : w.cell? ⟨b, o + 6, none⟩ = some (.int .i64 x.x.r)
 c7 : w.cell? ⟨b, o + 7, none⟩ = some (.int .i64 x.x.c)
 c8 : w.cell? ⟨b, o + 8, none⟩ = some (.int .i64 x.x.b)
 c9 : w.cell? ⟨b, o + 9, none⟩ = some (.int .i64 x.x.p)
 c10 : w.cell? ⟨b, o + 10, none⟩ = some (.int .i64 x.x.h)
 c11 : w.cell? ⟨b, o + 11, none⟩ = some (.bool x.x.up)
theorem wiAtO_of {w : World} {b o : Nat} {x : Wi} (h : ∀ j v, (wiEnc x)[j]? = some v → w.cell? ⟨b, o + j, none⟩ = some v) : WiAtO w b o x := ⟨h 0 _ rfl, h 1 _ rfl, h 2 _ rfl, h 3 _ rfl, h 4 _ rfl, h 5 _ rfl, h 6 _ rfl, h 7 _ rfl, h 8 _ rfl, h 9 _ rfl, h 10 _ rfl, h 11 _ rfl⟩
def mdEnc (x : MiD) : List Value := [.bool x.m.up, .int .i64 x.m.li, .int .i64 x.m.ep, .slice x.ad x.m.lg.length x.cap, .int .i64 x.m.sd, .int .i64 x.m.ac, .int .i64 x.m.al]
theorem mdEnc_len (x : MiD) : (mdEnc x).length = 7 := rfl
structure MdAtO (w : World) (b o : Nat) (x : MiD) : Prop where
 c0 : w.cell? ⟨b, o, none⟩ = some (.bool x.m.up)
 c1 : w.cell? ⟨b, o + 1, none⟩ = some (.int .i64 x.m.li)
 c2 : w.cell? ⟨b, o + 2, none⟩ = some (.int .i64 x.m.ep)
 c3 : w.cell? ⟨b, o + 3, none⟩ = some (.slice x.ad x.m.lg.length x.cap)
 c4 : w.cell? ⟨b, o + 4, none⟩ = some (.int .i64 x.m.sd)
 c5 : w.cell? ⟨b, o + 5, none⟩ = some (.int .i64 x.m.ac)
 c6 : w.cell? ⟨b, o + 6, none⟩ = some (.int .i64 x.m.al)
theorem mdAtO_of {w : World} {b o : Nat} {x : MiD} (h : ∀ j v, (mdEnc x)[j]? = some v → w.cell? ⟨b, o + j, none⟩ = some v) : MdAtO w b o x := ⟨h 0 _ rfl, h 1 _ rfl, h 2 _ rfl, h 3 _ rfl, h 4 _ rfl, h 5 _ rfl, h 6 _ rfl⟩
structure BxD where
 id : Int
 po : Int
 rg : Rg
 two : List MiD
 aT : Option Addr
 cT : Nat
 net : List Wi
 aN : Option Addr
 cN : Nat
 ga : List Bool
 aG : Option Addr
 cG : Nat
 ln : List Ik
 aL : Option Addr
 cL : Nat
 sd : List Ou
 aS : Option Addr
 cS : Nat
def BxD.p (x : BxD) : Bx := ⟨x.id, x.po, x.rg, x.two.map MiD.m, x.net, x.ga, x.ln, x.sd⟩
structure BxAt (w : World) (q : Nat) (x : BxD) : Prop where
 c0 : w.cell? ⟨q, 0, none⟩ = some (.int .i64 x.id)
 c1 : w.cell? ⟨q, 1, none⟩ = some (.int .i64 x.po)
 c2 : w.cell? ⟨q, 2, none⟩ = some (.int .i64 x.rg.ep)
 c3 : w.cell? ⟨q, 3, none⟩ = some (.int .i64 x.rg.ow)
 c4 : w.cell? ⟨q, 4, none⟩ = some (.int .i64 x.rg.pa)
 c5 : w.cell? ⟨q, 5, none⟩ = some (.slice x.aT x.two.length x.cT)
 c6 : w.cell? ⟨q, 6, none⟩ = some (.slice x.aN x.net.length x.cN)
 c7 : w.cell? ⟨q, 7, none⟩ = some (.slice x.aG x.ga.length x.cG)
 c8 : w.cell? ⟨q, 8, none⟩ = some (.slice x.aL x.ln.length x.cL)
 c9 : w.cell? ⟨q, 9, none⟩ = some (.slice x.aS x.sd.length x.cS)
theorem BxAt.keep {w w' : World} {q : Nat} {x : BxD} (h : BxAt w q x) (k : w'.heap[q]? = w.heap[q]?) : BxAt w' q x :=
 ⟨(World.cell?_of_block (a := ⟨q, 0, none⟩) k).trans h.c0, (World.cell?_of_block (a := ⟨q, 1, none⟩) k).trans h.c1, (World.cell?_of_block (a := ⟨q, 2, none⟩) k).trans h.c2, (World.cell?_of_block (a := ⟨q, 3, none⟩) k).trans h.c3, (World.cell?_of_block (a := ⟨q, 4, none⟩) k).trans h.c4, (World.cell?_of_block (a := ⟨q, 5, none⟩) k).trans h.c5, (World.cell?_of_block (a := ⟨q, 6, none⟩) k).trans h.c6, (World.cell?_of_block (a := ⟨q, 7, none⟩) k).trans h.c7, (World.cell?_of_block (a := ⟨q, 8, none⟩) k).trans h.c8, (World.cell?_of_block (a := ⟨q, 9, none⟩) k).trans h.c9⟩
theorem BxAt.below {w w' : World} {q n : Nat} {x : BxD} (h : BxAt w q x) (k : Below n w w') (hq : q < n) : BxAt w' q x := h.keep (k.block q hq)
theorem BxAt.lt {w : World} {q : Nat} {x : BxD} (h : BxAt w q x) : q < w.heap.size := World.block_lt_of_cell? w _ h.c0
theorem BxAt.new (w : World) (t : TypeId) (x : BxD) : BxAt (w.alloc (Obj.cells #[.int .i64 x.id, .int .i64 x.po, .int .i64 x.rg.ep, .int .i64 x.rg.ow, .int .i64 x.rg.pa, .slice x.aT x.two.length x.cT, .slice x.aN x.net.length x.cN, .slice x.aG x.ga.length x.cG, .slice x.aL x.ln.length x.cL, .slice x.aS x.sd.length x.cS] t)) w.heap.size x := by
 refine ⟨?_, ?_, ?_, ?_, ?_, ?_, ?_, ?_, ?_, ?_⟩ <;> simp [go_sem]
structure BxV (w : World) (x : BxD) : Prop where
 t : FView mdEnc w x.aT x.two
 l : ∀ i, i < x.two.length → FView ikEnc w (x.two.getD i MiD.nil).ad (x.two.getD i MiD.nil).m.lg
 n : FView wiEnc w x.aN x.net
 g : FView boEnc w x.aG x.ga
 i : FView ikEnc w x.aL x.ln
 s : FView ouEnc w x.aS x.sd
 bt : x.two.length ≤ 1048576
 bl : ∀ i, i < x.two.length → (x.two.getD i MiD.nil).m.lg.length ≤ 1048576
 bn : x.net.length ≤ 1048576
 bg : x.ga.length ≤ 1048576
 bi : x.ln.length ≤ 1048576
 bs : x.sd.length ≤ 1048576
 ct : x.two.length ≤ x.cT
theorem BxV.later {w w' : World} {x : BxD} (h : BxV w x) (k : Below w.heap.size w w') : BxV w' x :=
 ⟨h.t.below k (h.t.lt mdEnc_len (by omega)), fun i hi => (h.l i hi).below k ((h.l i hi).lt ikEnc_len (by omega)), h.n.below k (h.n.lt wiEnc_len (by omega)), h.g.below k (h.g.lt boEnc_len (by omega)), h.i.below k (h.i.lt ikEnc_len (by omega)), h.s.below k (h.s.lt ouEnc_len (by omega)), h.bt, h.bl, h.bn, h.bg, h.bi, h.bs, h.ct⟩
theorem mOf_p (x : BxD) (s : Int) : mOf x.p s = (x.two.getD s.toNat MiD.nil).m := by
 unfold mOf BxD.p
 simp only [List.getD, List.getElem?_map]
 cases x.two[s.toNat]? <;> rfl
set_option maxHeartbeats 2000000 in
theorem toInI (x : Ik) (w : World) : Calls Tryz.prog 50 #[.agg #[.int .i64 x.k, .int .i64 x.q, .int .i64 x.r, .int .i64 x.c, .int .i64 x.b, .int .i64 x.p, .int .i64 x.h, .bool x.up]] w fun e w' => e = .returned (.agg #[.int .i64 x.k, .int .i64 x.q, .int .i64 x.r, .int .i64 x.c, .int .i64 x.b, .int .i64 x.p, .int .i64 x.h, .bool x.up]) ∧ Below w.heap.size w w' := by
 obtain ⟨w0, hw0⟩ := mk_ (((w.alloc (Obj.cells #[.int .i64 x.k, .int .i64 x.q, .int .i64 x.r, .int .i64 x.c, .int .i64 x.b, .int .i64 x.p, .int .i64 x.h, .bool x.up] 87)).alloc (Obj.cells #[.int .i64 0, .int .i64 0, .int .i64 0, .int .i64 0, .int .i64 0, .int .i64 0, .int .i64 0, .bool false] 80)).alloc (Obj.cells #[.int .i64 x.k, .int .i64 x.q, .int .i64 0, .int .i64 0, .int .i64 0, .int .i64 0, .int .i64 0, .bool false] 80))
 have b0 : Below w.heap.size w w0 := by rw [hw0]; exact (((Below.refl _ _).alloc (Nat.le_refl _) _).alloc (by simp) _).alloc (by simp; omega) _
 have P0 : InAt w0 w.heap.size x := by rw [hw0]; constructor <;> simp [go_sem]
 have Q0 : InAt w0 (w.heap.size + 1) ⟨0, 0, 0, 0, 0, 0, 0, false⟩ := by rw [hw0]; constructor <;> simp [go_sem]
 have R0 : InAt w0 (w.heap.size + 1 + 1) ⟨x.k, x.q, 0, 0, 0, 0, 0, false⟩ := by rw [hw0]; constructor <;> simp [go_sem]
 have QF : ∀ i, w0.frozen? ⟨w.heap.size + 1, i, none⟩ = false := fun i => by rw [hw0]; simp [go_sem]
 have RF : ∀ i, w0.frozen? ⟨w.heap.size + 1 + 1, i, none⟩ = false := fun i => by rw [hw0]; simp [go_sem]
 have S0 := R0.lt
 go_enter Tryz.func50, Tryz.ntmps50
 go_wp2_with fail
 go_at_call 75
 rw [← hw0]
 clear hw0
 refine (toV x.r x.c x.b x.p w0).mono ?_
 rintro e w1 ⟨rfl, k1⟩
 have b1 := b0.trans (k1.mono b0.size)
 obtain ⟨p0, p1, p2, p3, p4, p5, p6, p7⟩ := P0.below k1 (by omega)
 obtain ⟨r0, r1, r2, r3, r4, r5, r6, r7⟩ := R0.below k1 (by omega)
 obtain ⟨q0, q1, q2, q3, q4, q5, q6, q7⟩ := Q0.below k1 (by omega)
 have qf0 : w1.frozen? ⟨w.heap.size + 1, 0, none⟩ = false := (World.frozen?_of_block (a := ⟨w.heap.size + 1, 0, none⟩) (k1.block (w.heap.size + 1) (by omega))).trans (QF 0)
 have rf0 : w1.frozen? ⟨w.heap.size + 1 + 1, 0, none⟩ = false := (World.frozen?_of_block (a := ⟨w.heap.size + 1 + 1, 0, none⟩) (k1.block (w.heap.size + 1 + 1) (by omega))).trans (RF 0)
 have qf1 : w1.frozen? ⟨w.heap.size + 1, 1, none⟩ = false := (World.frozen?_of_block (a := ⟨w.heap.size + 1, 1, none⟩) (k1.block (w.heap.size + 1) (by omega))).trans (QF 1)
 have rf1 : w1.frozen? ⟨w.heap.size + 1 + 1, 1, none⟩ = false := (World.frozen?_of_block (a := ⟨w.heap.size + 1 + 1, 1, none⟩) (k1.block (w.heap.size + 1 + 1) (by omega))).trans (RF 1)
 have qf2 : w1.frozen? ⟨w.heap.size + 1, 2, none⟩ = false := (World.frozen?_of_block (a := ⟨w.heap.size + 1, 2, none⟩) (k1.block (w.heap.size + 1) (by omega))).trans (QF 2)
 have rf2 : w1.frozen? ⟨w.heap.size + 1 + 1, 2, none⟩ = false := (World.frozen?_of_block (a := ⟨w.heap.size + 1 + 1, 2, none⟩) (k1.block (w.heap.size + 1 + 1) (by omega))).trans (RF 2)
 have qf3 : w1.frozen? ⟨w.heap.size + 1, 3, none⟩ = false := (World.frozen?_of_block (a := ⟨w.heap.size + 1, 3, none⟩) (k1.block (w.heap.size + 1) (by omega))).trans (QF 3)
 have rf3 : w1.frozen? ⟨w.heap.size + 1 + 1, 3, none⟩ = false := (World.frozen?_of_block (a := ⟨w.heap.size + 1 + 1, 3, none⟩) (k1.block (w.heap.size + 1 + 1) (by omega))).trans (RF 3)
 have qf4 : w1.frozen? ⟨w.heap.size + 1, 4, none⟩ = false := (World.frozen?_of_block (a := ⟨w.heap.size + 1, 4, none⟩) (k1.block (w.heap.size + 1) (by omega))).trans (QF 4)
 have rf4 : w1.frozen? ⟨w.heap.size + 1 + 1, 4, none⟩ = false := (World.frozen?_of_block (a := ⟨w.heap.size + 1 + 1, 4, none⟩) (k1.block (w.heap.size + 1 + 1) (by omega))).trans (RF 4)
 have qf5 : w1.frozen? ⟨w.heap.size + 1, 5, none⟩ = false := (World.frozen?_of_block (a := ⟨w.heap.size + 1, 5, none⟩) (k1.block (w.heap.size + 1) (by omega))).trans (QF 5)
 have rf5 : w1.frozen? ⟨w.heap.size + 1 + 1, 5, none⟩ = false := (World.frozen?_of_block (a := ⟨w.heap.size + 1 + 1, 5, none⟩) (k1.block (w.heap.size + 1 + 1) (by omega))).trans (RF 5)
 have qf6 : w1.frozen? ⟨w.heap.size + 1, 6, none⟩ = false := (World.frozen?_of_block (a := ⟨w.heap.size + 1, 6, none⟩) (k1.block (w.heap.size + 1) (by omega))).trans (QF 6)
 have rf6 : w1.frozen? ⟨w.heap.size + 1 + 1, 6, none⟩ = false := (World.frozen?_of_block (a := ⟨w.heap.size + 1 + 1, 6, none⟩) (k1.block (w.heap.size + 1 + 1) (by omega))).trans (RF 6)
 have qf7 : w1.frozen? ⟨w.heap.size + 1, 7, none⟩ = false := (World.frozen?_of_block (a := ⟨w.heap.size + 1, 7, none⟩) (k1.block (w.heap.size + 1) (by omega))).trans (QF 7)
 have rf7 : w1.frozen? ⟨w.heap.size + 1 + 1, 7, none⟩ = false := (World.frozen?_of_block (a := ⟨w.heap.size + 1 + 1, 7, none⟩) (k1.block (w.heap.size + 1 + 1) (by omega))).trans (RF 7)
 clear P0 R0 Q0 QF RF k1 b0
 go_wp2
 refine bodyPost_ret (v := .agg #[.int .i64 x.k, .int .i64 x.q, .int .i64 x.r, .int .i64 x.c, .int .i64 x.b, .int .i64 x.p, .int .i64 x.h, .bool x.up]) (by simp [results, Tryz.results50, go_sem, *]) rfl ⟨rfl, ?_⟩
 repeat' (first | with_reducible exact b1 | refine Below.setCell ?_ (by first | (show _ ≤ w.heap.size + 1; omega) | (show _ ≤ w.heap.size + 1 + 1; omega)) _)
set_option maxRecDepth 100000 in
theorem ikRow_open {H : Type} {enc : TypeId × Value → H} {w : World} {n0 : Nat} {v : Value} {x : DataW H × List MemPlace} (hn : DataW.trod enc Tryz.prog w 0 (fun _ => true) true n0 27 [v] = some x) :
  ∃ ad cap L, v = .slice ad L.length cap ∧ L.length ≤ maxLen ∧ FView ikEnc w ad L ∧ (ad = none → cap = 0) := by
 have hs := Go.Deep.open_slice Tryz.underlying27 hn
 have hcell : ∀ x, [v] = [x] → v = x := fun x h => by simpa using h
 rcases hs with ⟨hcs, _⟩ | ⟨a, len, cap, m, n, D, Pl, hcs, _, hl, hm, hmm, _, hx⟩
 ·
  exact ⟨none, 0, [], hcell _ hcs, by simp, FView.nil, fun _ => rfl⟩
 ·
  simp at hmm
  subst hmm
  have each : ∀ i, i < m → ∃ q : Ik, w.cell? (a.add (i * 8)) = some (.int .i64 q.k) ∧ w.cell? (a.add (i * 8 + 1)) = some (.int .i64 q.q) ∧ w.cell? (a.add (i * 8 + 2)) = some (.int .i64 q.r) ∧ w.cell? (a.add (i * 8 + 3)) = some (.int .i64 q.c) ∧ w.cell? (a.add (i * 8 + 4)) = some (.int .i64 q.b) ∧ w.cell? (a.add (i * 8 + 5)) = some (.int .i64 q.p) ∧ w.cell? (a.add (i * 8 + 6)) = some (.int .i64 q.h) ∧ w.cell? (a.add (i * 8 + 7)) = some (.bool q.up) := by
   intro i hi
   obtain ⟨cs', h1, h2⟩ := hx i hi
   rw [(by kernel_rfl : Tryz.prog.cellsOf 87 = 8)] at h1
   obtain ⟨_, hlen, hc⟩ := World.cells?_some h1
   obtain ⟨xs, k, hk, hxy, _, hxl, hf⟩ := DataW.trod_struct Tryz.underlying87 h2
   match xs, hxl, cs', hlen with
   | [y0, y1, y2, y3, y4], _, [c0, c1, c2, c3, c4, c5, c6, c7], _ =>
    have g0 : DataW.trod enc Tryz.prog w 0 (fun _ => true) true k 3 ((List.drop 0 [c0, c1, c2, c3, c4, c5, c6, c7]).take (Tryz.prog.cellsOf 3)) = some y0 := hf 0 _ rfl
    rw [(by kernel_rfl : Tryz.prog.cellsOf 3 = 1)] at g0
    have g1 : DataW.trod enc Tryz.prog w 0 (fun _ => true) true k 3 ((List.drop 1 [c0, c1, c2, c3, c4, c5, c6, c7]).take (Tryz.prog.cellsOf 3)) = some y1 := hf 1 _ rfl
    rw [(by kernel_rfl : Tryz.prog.cellsOf 3 = 1)] at g1
    have g2 : DataW.trod enc Tryz.prog w 0 (fun _ => true) true k 85 ((List.drop 2 [c0, c1, c2, c3, c4, c5, c6, c7]).take (Tryz.prog.cellsOf 85)) = some y2 := hf 2 _ rfl
    rw [(by kernel_rfl : Tryz.prog.cellsOf 85 = 4)] at g2
    have g3 : DataW.trod enc Tryz.prog w 0 (fun _ => true) true k 3 ((List.drop 6 [c0, c1, c2, c3, c4, c5, c6, c7]).take (Tryz.prog.cellsOf 3)) = some y3 := hf 3 _ rfl
    rw [(by kernel_rfl : Tryz.prog.cellsOf 3 = 1)] at g3
    have g4 : DataW.trod enc Tryz.prog w 0 (fun _ => true) true k 4 ((List.drop 7 [c0, c1, c2, c3, c4, c5, c6, c7]).take (Tryz.prog.cellsOf 4)) = some y4 := hf 4 _ rfl
    rw [(by kernel_rfl : Tryz.prog.cellsOf 4 = 1)] at g4
    obtain ⟨us2, k2, hk2, hxy2, _, hul2, hg2⟩ := DataW.trod_struct Tryz.underlying85 g2
    match us2, hul2 with
    | [u2_0, u2_1, u2_2, u2_3], _ =>
     have q2_0 : DataW.trod enc Tryz.prog w 0 (fun _ => true) true k2 3 ((List.drop 0 [c2, c3, c4, c5]).take (Tryz.prog.cellsOf 3)) = some u2_0 := hg2 0 _ rfl
     rw [(by kernel_rfl : Tryz.prog.cellsOf 3 = 1)] at q2_0
     have q2_1 : DataW.trod enc Tryz.prog w 0 (fun _ => true) true k2 3 ((List.drop 1 [c2, c3, c4, c5]).take (Tryz.prog.cellsOf 3)) = some u2_1 := hg2 1 _ rfl
     rw [(by kernel_rfl : Tryz.prog.cellsOf 3 = 1)] at q2_1
     have q2_2 : DataW.trod enc Tryz.prog w 0 (fun _ => true) true k2 3 ((List.drop 2 [c2, c3, c4, c5]).take (Tryz.prog.cellsOf 3)) = some u2_2 := hg2 2 _ rfl
     rw [(by kernel_rfl : Tryz.prog.cellsOf 3 = 1)] at q2_2
     have q2_3 : DataW.trod enc Tryz.prog w 0 (fun _ => true) true k2 3 ((List.drop 3 [c2, c3, c4, c5]).take (Tryz.prog.cellsOf 3)) = some u2_3 := hg2 3 _ rfl
     rw [(by kernel_rfl : Tryz.prog.cellsOf 3 = 1)] at q2_3
     obtain ⟨z0, e0, _, _⟩ := DataW.trod_int Tryz.underlying3 g0
     obtain ⟨z1, e1, _, _⟩ := DataW.trod_int Tryz.underlying3 g1
     obtain ⟨z2, e2, _, _⟩ := DataW.trod_int Tryz.underlying3 q2_0
     obtain ⟨z3, e3, _, _⟩ := DataW.trod_int Tryz.underlying3 q2_1
     obtain ⟨z4, e4, _, _⟩ := DataW.trod_int Tryz.underlying3 q2_2
     obtain ⟨z5, e5, _, _⟩ := DataW.trod_int Tryz.underlying3 q2_3
     obtain ⟨z6, e6, _, _⟩ := DataW.trod_int Tryz.underlying3 g3
     obtain ⟨z7, e7, _⟩ := DataW.trod_bool Tryz.underlying4 g4
     simp at e0 e1 e2 e3 e4 e5 e6 e7
     subst e0 e1 e2 e3 e4 e5 e6 e7
     have k_0 := hc 0 (by omega)
     have k_1 := hc 1 (by omega)
     have k_2 := hc 2 (by omega)
     have k_3 := hc 3 (by omega)
     have k_4 := hc 4 (by omega)
     have k_5 := hc 5 (by omega)
     have k_6 := hc 6 (by omega)
     have k_7 := hc 7 (by omega)
     rw [Go.Deep.add_add] at k_0 k_1 k_2 k_3 k_4 k_5 k_6 k_7
     exact ⟨⟨z0, z1, z2, z3, z4, z5, z6, z7⟩, by simpa using k_0, by simpa using k_1, by simpa using k_2, by simpa using k_3, by simpa using k_4, by simpa using k_5, by simpa using k_6, by simpa using k_7⟩
  haveI : Inhabited Ik := ⟨Ik.nil⟩
  obtain ⟨q, hq⟩ := Go.Deep.choose_lt each
  refine ⟨some a, m, (List.range len).map q, by simpa using hcell _ hcs, by simpa using Nat.le_trans hl hm, fun hp => ?_, fun e => by cases e⟩
  simp at hp
  obtain ⟨b, off, spot⟩ := a
  have hspot : spot = none := by simpa [Addr.add] using World.cell?_spot (hq 0 (by omega)).1
  subst hspot
  refine ⟨b, off, rfl, fun j v hv => ?_⟩
  have hjl : j < len * 8 := by
   have := (List.getElem?_eq_some_iff.1 hv).1
   rw [fcells_len ikEnc_len] at this
   simpa using this
  have hi : j / 8 < len := by omega
  have hr : j % 8 < 8 := Nat.mod_lt _ (by omega)
  have e : j = j / 8 * 8 + j % 8 := by omega
  rw [e, fcells_at ikEnc_len Ik.nil _ _ _ (by simpa using hi) hr, show ((List.range len).map q).getD (j / 8) Ik.nil = q (j / 8) by simp [List.getD, hi]] at hv
  obtain ⟨k0, k1, k2, k3, k4, k5, k6, k7⟩ := hq (j / 8) (by omega)
  simp only [add_plain] at k0 k1 k2 k3 k4 k5 k6 k7
  rw [e]
  generalize j % 8 = r at hv hr
  have hcase : r = 0 ∨ r = 1 ∨ r = 2 ∨ r = 3 ∨ r = 4 ∨ r = 5 ∨ r = 6 ∨ r = 7 := by omega
  rcases hcase with rfl | rfl | rfl | rfl | rfl | rfl | rfl | rfl
  ·
   cases hv; simpa [Nat.add_assoc] using k0
  ·
   cases hv; simpa [Nat.add_assoc] using k1
  ·
   cases hv; simpa [Nat.add_assoc] using k2
  ·
   cases hv; simpa [Nat.add_assoc] using k3
  ·
   cases hv; simpa [Nat.add_assoc] using k4
  ·
   cases hv; simpa [Nat.add_assoc] using k5
  ·
   cases hv; simpa [Nat.add_assoc] using k6
  ·
   cases hv; simpa [Nat.add_assoc] using k7
theorem ikSz (ad : Option Addr) (len cap : Nat) (left : Int) (w : World) (h0 : 0 ≤ left) (h1 : left ≤ 1048576) (hm : len ≤ maxLen) :
  Calls Tryz.prog 15 #[.slice ad len cap, .int .i64 left] w fun e w' => e = .returned (.int .i64 (if (len : Int) ≤ left then left - len else -1)) ∧ w' = w := by
 unfold maxLen at hm
 by_cases h : (len : Int) ≤ left
 ·
  rw [if_pos h]
  have h2 : 0 ≤ left - (len : Int) := by omega
  go_enter Tryz.func15, Tryz.ntmps15
  go_wp2
  go_ret
  exact ⟨rfl, rfl⟩
 ·
  rw [if_neg h]
  have h2 : left - (len : Int) < 0 := by omega
  go_enter Tryz.func15, Tryz.ntmps15
  go_wp2
  go_ret
  exact ⟨rfl, rfl⟩
theorem ikInfo : (Tryz.prog.info? 80).map (fun i => (i.zero, i.size, i.bytes)) = some (some (.agg #[.int .i64 0, .int .i64 0, .int .i64 0, .int .i64 0, .int .i64 0, .int .i64 0, .int .i64 0, .bool false]), 8, 64) := by kernel_rfl
set_option maxHeartbeats 2000000 in
theorem ikToS (ad : Option Addr) (cap : Nat) (L : List Ik) (w : World) (hv : FView ikEnc w ad L) (hl : L.length ≤ 1048576) :
  Calls Tryz.prog 25 #[.slice ad L.length cap] w fun e w' => e = .returned (.slice (some ⟨w.heap.size, 0, none⟩) L.length L.length) ∧ FOwn ikEnc 8 80 w.heap.size w' (.slice (some ⟨w.heap.size, 0, none⟩) L.length L.length) L ∧ Below w.heap.size w w' := by
 obtain ⟨i0, hi, hz0, hz1, hz2⟩ := info_parts ikInfo
 have hB := hv.lt ikEnc_len (by omega)
 go_enter Tryz.func25, Tryz.ntmps25
 go_wp2_with (first | (refine wpList_make_full _ rfl _ _ 36 rfl w.heap.size 80 i0 (.agg #[.int .i64 0, .int .i64 0, .int .i64 0, .int .i64 0, .int .i64 0, .int .i64 0, .int .i64 0, .bool false]) 8 Tryz.underlying36 hi hz0 hz1 .i64 .i64 _ _ L.length rfl rfl rfl rfl ?c1 ?c2 ?c3 ?_))
 case c1 => rw [hz2]; omega
 case c2 => unfold maxLen; omega
 case c3 => exact Nat.le_refl _
 intro w1 hown hgrow
 have F0 : FFill ikEnc 8 80 w.heap.size w1 w.heap.size L 0 := FFill.start hown
 have B0 : Below w.heap.size w w1 := (Below.refl _ _).grown hgrow (Nat.le_refl _) (by simp)
 clear hown hgrow
 go_wp2
 go_loopw [4] (fun i wr => ∃ k : Nat, k ≤ L.length ∧ i = .int .i64 k ∧ FFill ikEnc 8 80 w.heap.size wr w.heap.size L k ∧ Below w.heap.size w wr) (fun i _ => L.length - (intOf i).toNat)
 case atStart => exact ⟨0, Nat.zero_le _, rfl, F0, B0⟩
 case round =>
  obtain ⟨k, hk, rfl, F, B⟩ := hrel
  clear F0 B0
  by_cases hlt : k < L.length
  ·
   obtain ⟨b, off, rfl, _⟩ := hv (by omega)
   obtain ⟨h, hh⟩ : ∃ h, L.getD k Ik.nil = h := ⟨_, rfl⟩
   have hck : IkAtO wr b (off + k * 8) h := by
    rw [← hh]
    exact ikAtO_of ((hv.below B hB).at_ ikEnc_len Ik.nil hlt)
   obtain ⟨c0, c1, c2, c3, c4, c5, c6, c7⟩ := hck
   have hsz := F.lt
   go_wp2_with fail
   go_at_call 50
   refine (toInI h wr).mono ?_
   rintro e w2 ⟨rfl, k2⟩
   have G := F.keep (k2.block _ hsz.2)
   have B2 := B.trans (k2.mono (Nat.le_of_lt hsz.2))
   obtain ⟨u0, hu0⟩ := G.cell (k * 8) (by omega)
   obtain ⟨u1, hu1⟩ := G.cell (k * 8 + 1) (by omega)
   obtain ⟨u2, hu2⟩ := G.cell (k * 8 + 2) (by omega)
   obtain ⟨u3, hu3⟩ := G.cell (k * 8 + 3) (by omega)
   obtain ⟨u4, hu4⟩ := G.cell (k * 8 + 4) (by omega)
   obtain ⟨u5, hu5⟩ := G.cell (k * 8 + 5) (by omega)
   obtain ⟨u6, hu6⟩ := G.cell (k * 8 + 6) (by omega)
   obtain ⟨u7, hu7⟩ := G.cell (k * 8 + 7) (by omega)
   have f0 := G.frozen (k * 8)
   have f1 := G.frozen (k * 8 + 1)
   have f2 := G.frozen (k * 8 + 2)
   have f3 := G.frozen (k * 8 + 3)
   have f4 := G.frozen (k * 8 + 4)
   have f5 := G.frozen (k * 8 + 5)
   have f6 := G.frozen (k * 8 + 6)
   have f7 := G.frozen (k * 8 + 7)
   have G1 := G.step ikEnc_len Ik.nil hlt
   have B3 := below_putAll (Nat.le_refl _) (ikEnc h) (k * 8) B2
   rw [hh, ikPut] at G1
   rw [ikPut] at B3
   clear F G B B2 hh hsz
   go_wp2
   go_roundw
   case rel => exact ⟨k + 1, by omega, by go_num, G1, B3⟩
   case measure => simp [intOf]; omega
  ·
   obtain rfl : k = L.length := by omega
   go_wp2
   go_ret
   exact ⟨rfl, F.done ikEnc_len, B⟩
structure RgAt (w : World) (q : Nat) (r : Rg) : Prop where
 c0 : w.cell? ⟨q, 0, none⟩ = some (.int .i64 r.ep)
 c1 : w.cell? ⟨q, 1, none⟩ = some (.int .i64 r.ow)
 c2 : w.cell? ⟨q, 2, none⟩ = some (.int .i64 r.pa)
theorem RgAt.keep {w w' : World} {q : Nat} {r : Rg} (h : RgAt w q r) (k : w'.heap[q]? = w.heap[q]?) : RgAt w' q r :=
 ⟨(World.cell?_of_block (a := ⟨q, 0, none⟩) k).trans h.c0, (World.cell?_of_block (a := ⟨q, 1, none⟩) k).trans h.c1, (World.cell?_of_block (a := ⟨q, 2, none⟩) k).trans h.c2⟩
theorem RgAt.below {w w' : World} {q n : Nat} {r : Rg} (h : RgAt w q r) (k : Below n w w') (hq : q < n) : RgAt w' q r := h.keep (k.block q hq)
theorem RgAt.lt {w : World} {q : Nat} {r : Rg} (h : RgAt w q r) : q < w.heap.size := World.block_lt_of_cell? w _ h.c0
theorem RgAt.new (w : World) (t : TypeId) (r : Rg) : RgAt (w.alloc (Obj.cells #[.int .i64 r.ep, .int .i64 r.ow, .int .i64 r.pa] t)) w.heap.size r := by
 refine ⟨?_, ?_, ?_⟩ <;> simp [go_sem]
theorem setCells_put (g : Nat) : ∀ (vs : List Value) (o : Nat) (w : World), w.setCells g o vs = putAll w g o vs
 | [], _, _ => rfl
 | v :: vs, o, w => setCells_put g vs (o + 1) (w.setCell ⟨g, o, none⟩ v)
structure Turned (q : Nat) (o : Option Nat) (w w' : World) : Prop where
 os : w'.os = w.os
 tape : w'.tape = w.tape
 output : w'.output = w.output
 size : w.heap.size ≤ w'.heap.size
 block : ∀ k, k < w.heap.size → k ≠ q → o ≠ some k → w'.heap[k]? = w.heap[k]?
theorem Turned.below {q : Nat} {o : Option Nat} {w w' : World} (h : Turned q o w w') {B : Nat} (hB : B ≤ w.heap.size) (h1 : B ≤ q) (h2 : ∀ g, o = some g → B ≤ g) : Below B w w' :=
 ⟨h.os, h.tape, h.output, h.size, fun k hk => h.block k (by omega) (by omega) (fun e => by have := h2 k e; omega)⟩
theorem Turned.refl (q : Nat) (o : Option Nat) (w : World) : Turned q o w w := ⟨rfl, rfl, rfl, Nat.le_refl _, fun _ _ _ _ => rfl⟩
theorem Turned.set {q : Nat} {o : Option Nat} {w w' : World} (h : Turned q o w w') (i : Nat) (v : Value) : Turned q o w (w'.setCell ⟨q, i, none⟩ v) :=
 ⟨h.os, h.tape, h.output, by simpa using h.size, fun k hk h1 h2 => (Below.heap_setCell _ _ _ _ h1).trans (h.block k hk h1 h2)⟩
theorem Turned.put {q g : Nat} {w : World} (o : Nat) (vs : List Value) : Turned q (some g) w (putAll w g o vs) := by
 have hb := below_putAll (B := 0) (g := g) (a := w) (Nat.zero_le _) vs o (Below.refl 0 w)
 exact ⟨hb.os, hb.tape, hb.output, hb.size, fun k _ _ h2 => heap_putAll vs w o k (fun e => h2 (by rw [e]))⟩
theorem zeroIk (w : World) : (zeroValue 80).run Tryz.prog w = .ok (.agg #[.int .i64 0, .int .i64 0, .int .i64 0, .int .i64 0, .int .i64 0, .int .i64 0, .int .i64 0, .bool false]) w := by kernel_rfl
theorem clearIk (w : World) (ty : TypeId) (g n c : Nat) (hn : 0 < n) (hc : ∀ j, j < n * 8 → (w.cell? ⟨g, j, none⟩).isSome = true) (hf : ∀ j, w.frozen? ⟨g, j, none⟩ = false) :
  ∃ vs, (Builtin.clear_ #[36] ty #[.slice (some ⟨g, 0, none⟩) n c]).run Tryz.prog w = .ok (.tuple #[]) (putAll w g 0 vs) := by
 obtain ⟨z, hz⟩ := mk_ (Value.agg #[.int .i64 0, .int .i64 0, .int .i64 0, .int .i64 0, .int .i64 0, .int .i64 0, .int .i64 0, .bool false])
 have h8 : z.cells.size = 8 := by rw [hz]; rfl
 have hl : (Builtin.zeroCells z.cells n).toList.length = n * 8 := by simp [Builtin.zeroCells, h8]
 have h1 : ∀ v ∈ (Builtin.zeroCells z.cells n).toList, v.oneCell' = true := by
  intro v hv
  simp only [Builtin.zeroCells, h8, Array.toList_map, List.mem_map] at hv
  obtain ⟨i, _, rfl⟩ := hv
  have : i % 8 = 0 ∨ i % 8 = 1 ∨ i % 8 = 2 ∨ i % 8 = 3 ∨ i % 8 = 4 ∨ i % 8 = 5 ∨ i % 8 = 6 ∨ i % 8 = 7 := by omega
  rw [hz]
  rcases this with e | e | e | e | e | e | e | e <;> rw [e] <;> rfl
 have hst := run_storeCells_cells (P := Tryz.prog) g 0 (Builtin.zeroCells z.cells n).toList 0 w (by rw [hl]; simpa using hc) (fun j _ => by simpa using hf j) h1
 simp only [Nat.add_zero] at hst
 rw [setCells_put] at hst
 refine ⟨(Builtin.zeroCells z.cells n).toList, ?_⟩
 have hzv : ∀ w : World, (zeroValue 80).run Tryz.prog w = .ok z w := fun w => by rw [hz]; exact zeroIk w
 obtain ⟨k, rfl⟩ : ∃ k, n = k + 1 := ⟨n - 1, by omega⟩
 simp [Builtin.clear_, run_underlying Tryz.underlying36, hzv, hst]
set_option maxHeartbeats 2000000 in
theorem emptyI (m : Mi) (q base : Nat) (ad : Option Addr) (cap : Nat) (w : World) (M : MgBox w q m (.slice ad m.lg.length cap)) (O : FOwn ikEnc 8 80 base w (.slice ad m.lg.length cap) m.lg) (hq : ∀ g, (Value.slice ad m.lg.length cap).ownBlock = some g → g ≠ q) :
  Calls Tryz.prog 156 #[.pointer (some ⟨q, 0, none⟩)] w fun e w' => e = .returned (.tuple #[]) ∧ MgBox w' q m (.slice ad 0 cap) ∧ Turned q (Value.slice ad m.lg.length cap).ownBlock w w' := by
 have hcl : ∃ w1, (∀ ty, (Builtin.clear_ #[36] ty #[.slice ad m.lg.length cap]).run Tryz.prog w = .ok (.tuple #[]) w1) ∧ MgBox w1 q m (.slice ad m.lg.length cap) ∧ Turned q (Value.slice ad m.lg.length cap).ownBlock w w1 := by
  cases ad with
  | none =>
   refine ⟨w, fun ty => ?_, M, Turned.refl _ _ _⟩
   simp [Builtin.clear_, run_underlying Tryz.underlying36]
  | some a =>
   by_cases h0 : m.lg.length = 0
   ·
    refine ⟨w, fun ty => ?_, M, Turned.refl _ _ _⟩
    rw [h0]
    simp [Builtin.clear_, run_underlying Tryz.underlying36]
   ·
    have ha : ∃ g, a = ⟨g, 0, none⟩ := by
     rcases O.2 with ⟨e, _⟩ | ⟨g, c, cur, e, _⟩
     ·
      cases e
     ·
      simp only [Value.slice.injEq, Option.some.injEq] at e
      exact ⟨g, e.1⟩
    obtain ⟨g, rfl⟩ := ha
    have hc : ∀ j, j < m.lg.length * 8 → (w.cell? ⟨g, j, none⟩).isSome = true := fun j hj => by
     rw [World.ownsRow.cellAt O j hj]
     have hx : (fcells ikEnc m.lg).length = m.lg.length * 8 := fcells_len ikEnc_len _
     rw [List.getElem?_eq_getElem (by omega)]
     rfl
    have hne : q ≠ g := fun e => hq g rfl e.symm
    obtain ⟨vs, hvs⟩ := clearIk w 0 g m.lg.length cap (by omega) hc (fun j => O.frozen j)
    refine ⟨putAll w g 0 vs, fun ty => hvs, M.keep (heap_putAll vs w 0 q hne), Turned.put 0 vs⟩
 obtain ⟨w1, hcl, M1, T1⟩ := hcl
 have M2 := M1.log (.slice ad 0 cap)
 have T2 := T1.set 0 (.slice ad 0 cap)
 have c0 := M.c0
 have d0 := M1.c0
 have f0 := M1.fr 0
 clear M M1 T1 O hq
 cases ad with
 | none =>
  go_enter Tryz.func156, Tryz.ntmps156
  go_wp2_with (simp only [hcl])
  go_end0
  exact ⟨rfl, M2, T2⟩
 | some a =>
  go_enter Tryz.func156, Tryz.ntmps156
  go_wp2_with (simp only [hcl])
  go_end0
  exact ⟨rfl, M2, T2⟩
theorem MgBox.fallen {w : World} {q : Nat} {m : Mi} {v : Value} (h : MgBox w q m v) : MgBox ((((((w.setCell ⟨q, 1, none⟩ (.bool false)).setCell ⟨q, 2, none⟩ (.int .i64 m.li)).setCell ⟨q, 3, none⟩ (.int .i64 0)).setCell ⟨q, 4, none⟩ (.int .i64 0)).setCell ⟨q, 5, none⟩ (.int .i64 0)).setCell ⟨q, 6, none⟩ (.int .i64 0)) q ⟨false, m.li, 0, [], 0, 0, 0⟩ v := by
 obtain ⟨h0, h1, h2, h3, h4, h5, h6, hf⟩ := h
 have h0 : (w.setCell ⟨q, 1, none⟩ (.bool false)).cell? ⟨q, 0, none⟩ = _ := (pset_else (by decide)).trans h0
 have h1 : (w.setCell ⟨q, 1, none⟩ (.bool false)).cell? ⟨q, 1, none⟩ = some (.bool false) := pset_same h1
 have h2 : (w.setCell ⟨q, 1, none⟩ (.bool false)).cell? ⟨q, 2, none⟩ = _ := (pset_else (by decide)).trans h2
 have h3 : (w.setCell ⟨q, 1, none⟩ (.bool false)).cell? ⟨q, 3, none⟩ = _ := (pset_else (by decide)).trans h3
 have h4 : (w.setCell ⟨q, 1, none⟩ (.bool false)).cell? ⟨q, 4, none⟩ = _ := (pset_else (by decide)).trans h4
 have h5 : (w.setCell ⟨q, 1, none⟩ (.bool false)).cell? ⟨q, 5, none⟩ = _ := (pset_else (by decide)).trans h5
 have h6 : (w.setCell ⟨q, 1, none⟩ (.bool false)).cell? ⟨q, 6, none⟩ = _ := (pset_else (by decide)).trans h6
 have h0 : ((w.setCell ⟨q, 1, none⟩ (.bool false)).setCell ⟨q, 2, none⟩ (.int .i64 m.li)).cell? ⟨q, 0, none⟩ = _ := (pset_else (by decide)).trans h0
 have h1 : ((w.setCell ⟨q, 1, none⟩ (.bool false)).setCell ⟨q, 2, none⟩ (.int .i64 m.li)).cell? ⟨q, 1, none⟩ = _ := (pset_else (by decide)).trans h1
 have h2 : ((w.setCell ⟨q, 1, none⟩ (.bool false)).setCell ⟨q, 2, none⟩ (.int .i64 m.li)).cell? ⟨q, 2, none⟩ = some (.int .i64 m.li) := pset_same h2
 have h3 : ((w.setCell ⟨q, 1, none⟩ (.bool false)).setCell ⟨q, 2, none⟩ (.int .i64 m.li)).cell? ⟨q, 3, none⟩ = _ := (pset_else (by decide)).trans h3
 have h4 : ((w.setCell ⟨q, 1, none⟩ (.bool false)).setCell ⟨q, 2, none⟩ (.int .i64 m.li)).cell? ⟨q, 4, none⟩ = _ := (pset_else (by decide)).trans h4
 have h5 : ((w.setCell ⟨q, 1, none⟩ (.bool false)).setCell ⟨q, 2, none⟩ (.int .i64 m.li)).cell? ⟨q, 5, none⟩ = _ := (pset_else (by decide)).trans h5
 have h6 : ((w.setCell ⟨q, 1, none⟩ (.bool false)).setCell ⟨q, 2, none⟩ (.int .i64 m.li)).cell? ⟨q, 6, none⟩ = _ := (pset_else (by decide)).trans h6
 have h0 : (((w.setCell ⟨q, 1, none⟩ (.bool false)).setCell ⟨q, 2, none⟩ (.int .i64 m.li)).setCell ⟨q, 3, none⟩ (.int .i64 0)).cell? ⟨q, 0, none⟩ = _ := (pset_else (by decide)).trans h0
 have h1 : (((w.setCell ⟨q, 1, none⟩ (.bool false)).setCell ⟨q, 2, none⟩ (.int .i64 m.li)).setCell ⟨q, 3, none⟩ (.int .i64 0)).cell? ⟨q, 1, none⟩ = _ := (pset_else (by decide)).trans h1
 have h2 : (((w.setCell ⟨q, 1, none⟩ (.bool false)).setCell ⟨q, 2, none⟩ (.int .i64 m.li)).setCell ⟨q, 3, none⟩ (.int .i64 0)).cell? ⟨q, 2, none⟩ = _ := (pset_else (by decide)).trans h2
 have h3 : (((w.setCell ⟨q, 1, none⟩ (.bool false)).setCell ⟨q, 2, none⟩ (.int .i64 m.li)).setCell ⟨q, 3, none⟩ (.int .i64 0)).cell? ⟨q, 3, none⟩ = some (.int .i64 0) := pset_same h3
 have h4 : (((w.setCell ⟨q, 1, none⟩ (.bool false)).setCell ⟨q, 2, none⟩ (.int .i64 m.li)).setCell ⟨q, 3, none⟩ (.int .i64 0)).cell? ⟨q, 4, none⟩ = _ := (pset_else (by decide)).trans h4
 have h5 : (((w.setCell ⟨q, 1, none⟩ (.bool false)).setCell ⟨q, 2, none⟩ (.int .i64 m.li)).setCell ⟨q, 3, none⟩ (.int .i64 0)).cell? ⟨q, 5, none⟩ = _ := (pset_else (by decide)).trans h5
 have h6 : (((w.setCell ⟨q, 1, none⟩ (.bool false)).setCell ⟨q, 2, none⟩ (.int .i64 m.li)).setCell ⟨q, 3, none⟩ (.int .i64 0)).cell? ⟨q, 6, none⟩ = _ := (pset_else (by decide)).trans h6
 have h0 : ((((w.setCell ⟨q, 1, none⟩ (.bool false)).setCell ⟨q, 2, none⟩ (.int .i64 m.li)).setCell ⟨q, 3, none⟩ (.int .i64 0)).setCell ⟨q, 4, none⟩ (.int .i64 0)).cell? ⟨q, 0, none⟩ = _ := (pset_else (by decide)).trans h0
 have h1 : ((((w.setCell ⟨q, 1, none⟩ (.bool false)).setCell ⟨q, 2, none⟩ (.int .i64 m.li)).setCell ⟨q, 3, none⟩ (.int .i64 0)).setCell ⟨q, 4, none⟩ (.int .i64 0)).cell? ⟨q, 1, none⟩ = _ := (pset_else (by decide)).trans h1
 have h2 : ((((w.setCell ⟨q, 1, none⟩ (.bool false)).setCell ⟨q, 2, none⟩ (.int .i64 m.li)).setCell ⟨q, 3, none⟩ (.int .i64 0)).setCell ⟨q, 4, none⟩ (.int .i64 0)).cell? ⟨q, 2, none⟩ = _ := (pset_else (by decide)).trans h2
 have h3 : ((((w.setCell ⟨q, 1, none⟩ (.bool false)).setCell ⟨q, 2, none⟩ (.int .i64 m.li)).setCell ⟨q, 3, none⟩ (.int .i64 0)).setCell ⟨q, 4, none⟩ (.int .i64 0)).cell? ⟨q, 3, none⟩ = _ := (pset_else (by decide)).trans h3
 have h4 : ((((w.setCell ⟨q, 1, none⟩ (.bool false)).setCell ⟨q, 2, none⟩ (.int .i64 m.li)).setCell ⟨q, 3, none⟩ (.int .i64 0)).setCell ⟨q, 4, none⟩ (.int .i64 0)).cell? ⟨q, 4, none⟩ = some (.int .i64 0) := pset_same h4
 have h5 : ((((w.setCell ⟨q, 1, none⟩ (.bool false)).setCell ⟨q, 2, none⟩ (.int .i64 m.li)).setCell ⟨q, 3, none⟩ (.int .i64 0)).setCell ⟨q, 4, none⟩ (.int .i64 0)).cell? ⟨q, 5, none⟩ = _ := (pset_else (by decide)).trans h5
 have h6 : ((((w.setCell ⟨q, 1, none⟩ (.bool false)).setCell ⟨q, 2, none⟩ (.int .i64 m.li)).setCell ⟨q, 3, none⟩ (.int .i64 0)).setCell ⟨q, 4, none⟩ (.int .i64 0)).cell? ⟨q, 6, none⟩ = _ := (pset_else (by decide)).trans h6
 have h0 : (((((w.setCell ⟨q, 1, none⟩ (.bool false)).setCell ⟨q, 2, none⟩ (.int .i64 m.li)).setCell ⟨q, 3, none⟩ (.int .i64 0)).setCell ⟨q, 4, none⟩ (.int .i64 0)).setCell ⟨q, 5, none⟩ (.int .i64 0)).cell? ⟨q, 0, none⟩ = _ := (pset_else (by decide)).trans h0
 have h1 : (((((w.setCell ⟨q, 1, none⟩ (.bool false)).setCell ⟨q, 2, none⟩ (.int .i64 m.li)).setCell ⟨q, 3, none⟩ (.int .i64 0)).setCell ⟨q, 4, none⟩ (.int .i64 0)).setCell ⟨q, 5, none⟩ (.int .i64 0)).cell? ⟨q, 1, none⟩ = _ := (pset_else (by decide)).trans h1
 have h2 : (((((w.setCell ⟨q, 1, none⟩ (.bool false)).setCell ⟨q, 2, none⟩ (.int .i64 m.li)).setCell ⟨q, 3, none⟩ (.int .i64 0)).setCell ⟨q, 4, none⟩ (.int .i64 0)).setCell ⟨q, 5, none⟩ (.int .i64 0)).cell? ⟨q, 2, none⟩ = _ := (pset_else (by decide)).trans h2
 have h3 : (((((w.setCell ⟨q, 1, none⟩ (.bool false)).setCell ⟨q, 2, none⟩ (.int .i64 m.li)).setCell ⟨q, 3, none⟩ (.int .i64 0)).setCell ⟨q, 4, none⟩ (.int .i64 0)).setCell ⟨q, 5, none⟩ (.int .i64 0)).cell? ⟨q, 3, none⟩ = _ := (pset_else (by decide)).trans h3
 have h4 : (((((w.setCell ⟨q, 1, none⟩ (.bool false)).setCell ⟨q, 2, none⟩ (.int .i64 m.li)).setCell ⟨q, 3, none⟩ (.int .i64 0)).setCell ⟨q, 4, none⟩ (.int .i64 0)).setCell ⟨q, 5, none⟩ (.int .i64 0)).cell? ⟨q, 4, none⟩ = _ := (pset_else (by decide)).trans h4
 have h5 : (((((w.setCell ⟨q, 1, none⟩ (.bool false)).setCell ⟨q, 2, none⟩ (.int .i64 m.li)).setCell ⟨q, 3, none⟩ (.int .i64 0)).setCell ⟨q, 4, none⟩ (.int .i64 0)).setCell ⟨q, 5, none⟩ (.int .i64 0)).cell? ⟨q, 5, none⟩ = some (.int .i64 0) := pset_same h5
 have h6 : (((((w.setCell ⟨q, 1, none⟩ (.bool false)).setCell ⟨q, 2, none⟩ (.int .i64 m.li)).setCell ⟨q, 3, none⟩ (.int .i64 0)).setCell ⟨q, 4, none⟩ (.int .i64 0)).setCell ⟨q, 5, none⟩ (.int .i64 0)).cell? ⟨q, 6, none⟩ = _ := (pset_else (by decide)).trans h6
 have h0 : ((((((w.setCell ⟨q, 1, none⟩ (.bool false)).setCell ⟨q, 2, none⟩ (.int .i64 m.li)).setCell ⟨q, 3, none⟩ (.int .i64 0)).setCell ⟨q, 4, none⟩ (.int .i64 0)).setCell ⟨q, 5, none⟩ (.int .i64 0)).setCell ⟨q, 6, none⟩ (.int .i64 0)).cell? ⟨q, 0, none⟩ = _ := (pset_else (by decide)).trans h0
 have h1 : ((((((w.setCell ⟨q, 1, none⟩ (.bool false)).setCell ⟨q, 2, none⟩ (.int .i64 m.li)).setCell ⟨q, 3, none⟩ (.int .i64 0)).setCell ⟨q, 4, none⟩ (.int .i64 0)).setCell ⟨q, 5, none⟩ (.int .i64 0)).setCell ⟨q, 6, none⟩ (.int .i64 0)).cell? ⟨q, 1, none⟩ = _ := (pset_else (by decide)).trans h1
 have h2 : ((((((w.setCell ⟨q, 1, none⟩ (.bool false)).setCell ⟨q, 2, none⟩ (.int .i64 m.li)).setCell ⟨q, 3, none⟩ (.int .i64 0)).setCell ⟨q, 4, none⟩ (.int .i64 0)).setCell ⟨q, 5, none⟩ (.int .i64 0)).setCell ⟨q, 6, none⟩ (.int .i64 0)).cell? ⟨q, 2, none⟩ = _ := (pset_else (by decide)).trans h2
 have h3 : ((((((w.setCell ⟨q, 1, none⟩ (.bool false)).setCell ⟨q, 2, none⟩ (.int .i64 m.li)).setCell ⟨q, 3, none⟩ (.int .i64 0)).setCell ⟨q, 4, none⟩ (.int .i64 0)).setCell ⟨q, 5, none⟩ (.int .i64 0)).setCell ⟨q, 6, none⟩ (.int .i64 0)).cell? ⟨q, 3, none⟩ = _ := (pset_else (by decide)).trans h3
 have h4 : ((((((w.setCell ⟨q, 1, none⟩ (.bool false)).setCell ⟨q, 2, none⟩ (.int .i64 m.li)).setCell ⟨q, 3, none⟩ (.int .i64 0)).setCell ⟨q, 4, none⟩ (.int .i64 0)).setCell ⟨q, 5, none⟩ (.int .i64 0)).setCell ⟨q, 6, none⟩ (.int .i64 0)).cell? ⟨q, 4, none⟩ = _ := (pset_else (by decide)).trans h4
 have h5 : ((((((w.setCell ⟨q, 1, none⟩ (.bool false)).setCell ⟨q, 2, none⟩ (.int .i64 m.li)).setCell ⟨q, 3, none⟩ (.int .i64 0)).setCell ⟨q, 4, none⟩ (.int .i64 0)).setCell ⟨q, 5, none⟩ (.int .i64 0)).setCell ⟨q, 6, none⟩ (.int .i64 0)).cell? ⟨q, 5, none⟩ = _ := (pset_else (by decide)).trans h5
 have h6 : ((((((w.setCell ⟨q, 1, none⟩ (.bool false)).setCell ⟨q, 2, none⟩ (.int .i64 m.li)).setCell ⟨q, 3, none⟩ (.int .i64 0)).setCell ⟨q, 4, none⟩ (.int .i64 0)).setCell ⟨q, 5, none⟩ (.int .i64 0)).setCell ⟨q, 6, none⟩ (.int .i64 0)).cell? ⟨q, 6, none⟩ = some (.int .i64 0) := pset_same h6
 refine ⟨h0, h1, h2, h3, h4, h5, h6, fun i => ?_⟩
 rw [World.frozen?_setCell, World.frozen?_setCell, World.frozen?_setCell, World.frozen?_setCell, World.frozen?_setCell, World.frozen?_setCell]
 exact hf i
set_option maxHeartbeats 2000000 in
theorem fallI (m : Mi) (q base : Nat) (ad : Option Addr) (cap : Nat) (w : World) (M : MgBox w q m (.slice ad m.lg.length cap)) (O : FOwn ikEnc 8 80 base w (.slice ad m.lg.length cap) m.lg) (hq : ∀ g, (Value.slice ad m.lg.length cap).ownBlock = some g → g ≠ q) :
  Calls Tryz.prog 144 #[.pointer (some ⟨q, 0, none⟩)] w fun e w' => e = .returned (.tuple #[]) ∧ MgBox w' q ⟨false, m.li, 0, [], 0, 0, 0⟩ (.slice ad 0 cap) ∧ Turned q (Value.slice ad m.lg.length cap).ownBlock w w' := by
 go_enter Tryz.func144, Tryz.ntmps144
 go_wp2_with fail
 go_at_call 156
 refine (emptyI m q base ad cap w M O hq).mono ?_
 rintro e w1 ⟨rfl, M1, T1⟩
 have M2 := M1.fallen
 have T3 : Turned q (Value.slice ad m.lg.length cap).ownBlock w ((((((w1.setCell ⟨q, 1, none⟩ (.bool false)).setCell ⟨q, 2, none⟩ (.int .i64 m.li)).setCell ⟨q, 3, none⟩ (.int .i64 0)).setCell ⟨q, 4, none⟩ (.int .i64 0)).setCell ⟨q, 5, none⟩ (.int .i64 0)).setCell ⟨q, 6, none⟩ (.int .i64 0)) := ((((((T1.set 1 _).set 2 _).set 3 _).set 4 _).set 5 _).set 6 _)
 clear T1 O hq M
 obtain ⟨c0, c1, c2, c3, c4, c5, c6, fr⟩ := M1
 have f1 := fr 1
 have f2 := fr 2
 have f3 := fr 3
 have f4 := fr 4
 have f5 := fr 5
 have f6 := fr 6
 clear fr
 go_wp2
 go_end0
 exact ⟨rfl, M2, T3⟩
end Go.Proofs.YtnpiljegdiconabGreat
namespace Go.Proofs
abbrev Tryz.muLink : Go.Conc.Locks.MuLink := { lock := 146, unlock := 147, ilock := 158, iunlock := 159, lockSlow := 167, unlockSlow := 170, disable := 163, enable := 165, acquire := 166, relMerge := 168, cas32 := 164, add32 := 169, tMutex := 183, tIMutex := 181, tPMutex := 196, tPIMutex := 200, tPI32 := 202, tUP := 204, tNoCopy := 178, tU32 := 179 }
theorem Tryz.muLib : Go.Conc.Locks.MuLib Tryz.prog Tryz.muLink :=
 ⟨Tryz.func146, Tryz.func147, Tryz.func158, Tryz.func159, Tryz.func163, Tryz.func165, Tryz.func166, Tryz.func168, Tryz.func164, Tryz.func169, Tryz.underlying181, Tryz.runUnderlying181, Tryz.sizeOf181, Tryz.isAgg181, Tryz.zeroValue181, Tryz.underlying183, Tryz.runUnderlying183, Tryz.sizeOf183, Tryz.isAgg183, Tryz.zeroValue183, Tryz.underlying196, Tryz.runUnderlying196, Tryz.sizeOf196, Tryz.isAgg196, Tryz.zeroValue196, Tryz.underlying200, Tryz.runUnderlying200, Tryz.sizeOf200, Tryz.isAgg200, Tryz.zeroValue200, Tryz.underlying202, Tryz.runUnderlying202, Tryz.sizeOf202, Tryz.isAgg202, Tryz.zeroValue202, Tryz.underlying204, Tryz.runUnderlying204, Tryz.sizeOf204, Tryz.isAgg204, Tryz.zeroValue204, Tryz.underlying178, Tryz.runUnderlying178, Tryz.sizeOf178, Tryz.isAgg178, Tryz.zeroValue178, Tryz.underlying21, Tryz.runUnderlying21, Tryz.sizeOf21, Tryz.isAgg21, Tryz.zeroValue21, (by kernel_rfl)⟩
end Go.Proofs
namespace Go.Proofs.YtnpiljegdiconabGreat
open Go.ChangeShapes Go.WideShapes Go.ChangeAt Go.RowKit
open Go.ChangeMaps (open_string shut_string)
set_option linter.unusedVariables false
set_option maxRecDepth 100000
open Go.MuLone
structure GBox (w : World) (q : Nat) (l : Int) (r : Rg) : Prop where
 c0 : w.cell? ⟨q, 0, none⟩ = some (.int .i64 r.ep)
 c1 : w.cell? ⟨q, 1, none⟩ = some (.int .i32 l)
 c2 : w.cell? ⟨q, 2, none⟩ = some (.int .u32 0)
 c3 : w.cell? ⟨q, 3, none⟩ = some (.int .i64 r.ow)
 c4 : w.cell? ⟨q, 4, none⟩ = some (.int .i64 r.pa)
 fr : ∀ i, w.frozen? ⟨q, i, none⟩ = false
theorem GBox.keep {w w' : World} {q : Nat} {l : Int} {r : Rg} (h : GBox w q l r) (k : w'.heap[q]? = w.heap[q]?) : GBox w' q l r :=
 ⟨(World.cell?_of_block (a := ⟨q, 0, none⟩) k).trans h.c0, (World.cell?_of_block (a := ⟨q, 1, none⟩) k).trans h.c1, (World.cell?_of_block (a := ⟨q, 2, none⟩) k).trans h.c2, (World.cell?_of_block (a := ⟨q, 3, none⟩) k).trans h.c3, (World.cell?_of_block (a := ⟨q, 4, none⟩) k).trans h.c4, fun i => (World.frozen?_of_block (a := ⟨q, i, none⟩) k).trans (h.fr i)⟩
theorem GBox.lt {w : World} {q : Nat} {l : Int} {r : Rg} (h : GBox w q l r) : q < w.heap.size := World.block_lt_of_cell? w _ h.c0
theorem GBox.below {w w' : World} {q n : Nat} {l : Int} {r : Rg} (h : GBox w q l r) (k : Below n w w') (hq : q < n) : GBox w' q l r := h.keep (k.block q hq)
theorem GBox.lock {w : World} {q : Nat} {l : Int} {r : Rg} (h : GBox w q l r) (l' : Int) : GBox (w.setCell ⟨q, 1, none⟩ (.int .i32 l')) q l' r := by
 obtain ⟨h0, h1, h2, h3, h4, hf⟩ := h
 refine ⟨(pset_else (by decide)).trans h0, pset_same h1, (pset_else (by decide)).trans h2, (pset_else (by decide)).trans h3, (pset_else (by decide)).trans h4, fun i => ?_⟩
 rw [World.frozen?_setCell]; exact hf i
theorem GBox.setEp {w : World} {q : Nat} {l : Int} {r : Rg} (h : GBox w q l r) (x : Int) : GBox (w.setCell ⟨q, 0, none⟩ (.int .i64 x)) q l ⟨x, r.ow, r.pa⟩ := by
 obtain ⟨h0, h1, h2, h3, h4, hf⟩ := h
 refine ⟨pset_same h0, (pset_else (by decide)).trans h1, (pset_else (by decide)).trans h2, (pset_else (by decide)).trans h3, (pset_else (by decide)).trans h4, fun i => ?_⟩
 rw [World.frozen?_setCell]; exact hf i
theorem loadG (x : Int) (q : Nat) (w : World) (h : w.cell? ⟨q, 0, none⟩ = some (.int .i64 x)) :
  Calls Tryz.prog 160 #[.pointer (some ⟨q, 0, none⟩)] w fun e w' => e = .returned (.int .i64 x) ∧ w' = w := by
 have hl := run_call_load (P := Tryz.prog) Tryz.func171 (by kernel_rfl) (by kernel_rfl) (by kernel_rfl) .i64 (by kernel_rfl) h
 go_enter Tryz.func160, Tryz.ntmps160
 go_wp2
 go_ret
 exact ⟨rfl, rfl⟩
theorem storeG (x : Int) (u : Value) (q : Nat) (w : World) (h : w.cell? ⟨q, 0, none⟩ = some u) (hz : w.frozen? ⟨q, 0, none⟩ = false) :
  Calls Tryz.prog 145 #[.pointer (some ⟨q, 0, none⟩), .int .i64 x] w fun e w' => e = .returned (.tuple #[]) ∧ w' = w.setCell ⟨q, 0, none⟩ (.int .i64 x) := by
 have hl := run_call_store (P := Tryz.prog) Tryz.func157 (by kernel_rfl) (by kernel_rfl) (by kernel_rfl) (by kernel_rfl) (k := .i64) (y := x) h hz
 go_enter Tryz.func145, Tryz.ntmps145
 go_wp2
 exact bodyPost_end (results_none rfl _ _ _) rfl ⟨rfl, rfl⟩
theorem epochI (x : Int) (q : Nat) (w : World) (h : w.cell? ⟨q, 0, none⟩ = some (.int .i64 x)) :
  Calls Tryz.prog 148 #[.pointer (some ⟨q, 0, none⟩)] w fun e w' => e = .returned (.int .i64 x) ∧ w' = w := by
 go_enter Tryz.func148, Tryz.ntmps148
 go_wp2_with fail
 go_at_call 160
 refine (loadG x q w h).mono ?_
 rintro e w' ⟨rfl, rfl⟩
 go_wp2
 go_ret
 exact ⟨rfl, rfl⟩
open Go.MuLone
set_option maxHeartbeats 2000000 in
theorem isOfI (r : Rg) (s ep : Int) (q : Nat) (w : World) (G : GBox w q 0 r) :
  Calls Tryz.prog 126 #[.pointer (some ⟨q, 0, none⟩), .int .i64 s, .int .i64 ep] w fun e w' => e = .returned (.bool (decide (r.ow = s) && decide (r.ep = ep))) ∧ GBox w' q 0 r ∧ Turned q none w w' := by
 obtain ⟨R, hR⟩ := mk_ (decide (r.ow = s) && decide (r.ep = ep))
 rw [← hR]
 replace hR : Hid _ := hR
 go_enter_defers Tryz.func126, Tryz.ntmps126
 go_wp2_with fail
 go_at_call 146
 refine (lock_free Tryz.muLib ⟨q, 1, none⟩ w G.c1 (G.fr 1)).mono ?_
 rintro e w' ⟨rfl, rfl⟩
 obtain ⟨v, hv⟩ := mk_ (w.setCell ⟨q, 1, none⟩ (.int .i32 1))
 have G1 : GBox v q 1 r := by rw [hv]; exact G.lock 1
 have T1 : Turned q none w v := by rw [hv]; exact (Turned.refl _ _ _).set 1 _
 rw [← hv]
 clear hv G
 have c0 := G1.c0
 have c3 := G1.c3
 by_cases e1 : r.ow = s
 rotate_left
 focus
  have h1 : decide (r.ow = s) = false := decide_eq_false e1
  have hN : Hid (R = false) := by unfold Hid; rw [hR.out, h1]; rfl
 rotate_left
 focus
  have h1 : decide (r.ow = s) = true := decide_eq_true e1
  have hN : Hid (R = decide (r.ep = ep)) := by unfold Hid; rw [hR.out, h1]; rfl
  replace e1 : Hid _ := e1
  go_wp2_with fail
  go_at_call 148
  refine (epochI r.ep q v c0).mono ?_
  rintro e w' ⟨rfl, rfl⟩
 rotate_left
 all_goals
  go_wp2
  refine leaves_cons (f := 147) (args := #[.pointer (some ⟨q, 1, none⟩)]) (by simp) (by simp [go_sem]) ?_
  refine (unlock_deferred Tryz.muLib ⟨q, 1, none⟩ .returning _ G1.c1 (G1.fr 1)).mono ?_
  rintro e u' w'' ⟨rfl, rfl, rfl⟩
  exact ⟨_, results_tmp rfl _ _ _, by rw [hN.out]; rfl, G1.lock 0, T1.set 1 _⟩
end Go.Proofs.YtnpiljegdiconabGreat
