import Derived.Deep.Grids
import Derived.Test.YtnpiljegdiconaaQM17
namespace Go.Proofs.Ytnpiljegdiconaa
open Go.ChangeShapes Go.WideShapes Go.ChangeAt Go.RowKit
open Go.ChangeMaps (open_string shut_string)
set_option linter.unusedVariables false
set_option maxRecDepth 100000
theorem WiAtO.below {w w' : World} {q o n : Nat} {x : Wi} (h : WiAtO w q o x) (k : Below n w w') (hq : q < n) : WiAtO w' q o x :=
 ⟨(World.cell?_of_block (a := ⟨q, o, none⟩) (k.block q hq)).trans h.c0, (World.cell?_of_block (a := ⟨q, o + 1, none⟩) (k.block q hq)).trans h.c1, (World.cell?_of_block (a := ⟨q, o + 2, none⟩) (k.block q hq)).trans h.c2, (World.cell?_of_block (a := ⟨q, o + 3, none⟩) (k.block q hq)).trans h.c3, (World.cell?_of_block (a := ⟨q, o + 4, none⟩) (k.block q hq)).trans h.c4, (World.cell?_of_block (a := ⟨q, o + 5, none⟩) (k.block q hq)).trans h.c5, (World.cell?_of_block (a := ⟨q, o + 6, none⟩) (k.block q hq)).trans h.c6, (World.cell?_of_block (a := ⟨q, o + 7, none⟩) (k.block q hq)).trans h.c7, (World.cell?_of_block (a := ⟨q, o + 8, none⟩) (k.block q hq)).trans h.c8, (World.cell?_of_block (a := ⟨q, o + 9, none⟩) (k.block q hq)).trans h.c9, (World.cell?_of_block (a := ⟨q, o + 10, none⟩) (k.block q hq)).trans h.c10, (World.cell?_of_block (a := ⟨q, o + 11, none⟩) (k.block q hq)).trans h.c11⟩
end Go.Proofs.Ytnpiljegdiconaa
namespace Go.Proofs.Ytnpiljegdiconaa
open Go.ChangeShapes Go.WideShapes Go.ChangeAt Go.RowKit
open Go.ChangeMaps (open_string shut_string)
set_option linter.unusedVariables false
set_option maxRecDepth 100000
structure BxIn (w : World) (x : BxD) : Prop where
 t : MV w x.aT x.two
 tm : x.two.length ≤ maxLen
 ts : ∀ i, i < x.two.length → (x.two.getD i MiD.nil).m.lg.length ≤ maxLen
 tc : x.two.length ≤ x.cT
 tn : x.aT = none → x.cT = 0
 n : FView wiEnc w x.aN x.net
 nm : x.net.length ≤ maxLen
 nn : x.aN = none → x.cN = 0
 g : FView boEnc w x.aG x.ga
 gm : x.ga.length ≤ maxLen
 gn : x.aG = none → x.cG = 0
 i : FView ikEnc w x.aL x.ln
 im : x.ln.length ≤ maxLen
 ic : x.aL = none → x.cL = 0
 s : FView ouEnc w x.aS x.sd
 sm : x.sd.length ≤ maxLen
 sn : x.aS = none → x.cS = 0
theorem BxIn.below {w w' : World} {x : BxD} (h : BxIn w x) (k : Below w.heap.size w w') : BxIn w' x :=
 ⟨h.t.below k (Nat.le_refl _), h.tm, h.ts, h.tc, h.tn, h.n.below k (h.n.lt wiEnc_len (by omega)), h.nm, h.nn, h.g.below k (h.g.lt boEnc_len (by omega)), h.gm, h.gn, h.i.below k (h.i.lt ikEnc_len (by omega)), h.im, h.ic, h.s.below k (h.s.lt ouEnc_len (by omega)), h.sm, h.sn⟩
structure BxSm (x : BxD) : Prop where
 t : x.two.length ≤ 1048576
 l : lToM x.two x.two.length ≤ 1048576
 n : x.net.length ≤ 1048576
 g : x.ga.length ≤ 1048576
 i : x.ln.length ≤ 1048576
 s : x.sd.length ≤ 1048576
theorem BxSm.ls {x : BxD} (h : BxSm x) : ∀ i, i < x.two.length → (x.two.getD i MiD.nil).m.lg.length ≤ 1048576 := fun i hi => Nat.le_trans (getLM_le x.two hi) h.l
theorem BxIn.v {w : World} {x : BxD} (h : BxIn w x) (k : BxSm x) : BxV w x :=
 ⟨h.t.row, h.t.nest, h.n, h.g, h.i, h.s, k.t, k.ls, k.n, k.g, k.i, k.s, h.tc⟩
structure BxM (lo hi : Nat) (w : World) (x : BxD) : Prop where
 t : MOwn lo hi w (.slice x.aT x.two.length x.cT) x.two
 n : FOwn wiEnc 12 125 lo w (.slice x.aN x.net.length x.cN) x.net
 g : FOwn boEnc 1 4 lo w (.slice x.aG x.ga.length x.cG) x.ga
 i : FOwn ikEnc 8 30 lo w (.slice x.aL x.ln.length x.cL) x.ln
 s : FOwn ouEnc 8 135 lo w (.slice x.aS x.sd.length x.cS) x.sd
 nh : ∀ b, (Value.slice x.aN x.net.length x.cN).ownBlock = some b → b < hi
 gh : ∀ b, (Value.slice x.aG x.ga.length x.cG).ownBlock = some b → b < hi
 ih : ∀ b, (Value.slice x.aL x.ln.length x.cL).ownBlock = some b → b < hi
 sh : ∀ b, (Value.slice x.aS x.sd.length x.cS).ownBlock = some b → b < hi
 ap : ∀ j, j < x.two.length → ∀ b, (x.two.getD j MiD.nil).v.ownBlock = some b → (Value.slice x.aL x.ln.length x.cL).ownBlock ≠ some b
theorem BxM.in_ {lo hi : Nat} {w : World} {x : BxD} (h : BxM lo hi w x) (k : BxSm x) : BxIn w x := by
 have hm : (1048576 : Nat) ≤ maxLen := by unfold maxLen; omega
 exact ⟨h.t.view.2, Nat.le_trans k.t hm, fun i hi => Nat.le_trans (k.ls i hi) hm, h.t.row.capM, fun e => own_noneM (by have := h.t.row; rw [e] at this; exact this), h.n.view.2, Nat.le_trans k.n hm, fun e => own_noneM (by have := h.n; rw [e] at this; exact this), h.g.view.2, Nat.le_trans k.g hm, fun e => own_noneM (by have := h.g; rw [e] at this; exact this), h.i.view.2, Nat.le_trans k.i hm, fun e => own_noneM (by have := h.i; rw [e] at this; exact this), h.s.view.2, Nat.le_trans k.s hm, fun e => own_noneM (by have := h.s; rw [e] at this; exact this)⟩
end Go.Proofs.Ytnpiljegdiconaa
namespace Go.Proofs.Ytnpiljegdiconaa
open Go.ChangeShapes Go.WideShapes Go.ChangeAt Go.RowKit
open Go.ChangeMaps (open_string shut_string)
set_option linter.unusedVariables false
set_option maxRecDepth 100000
end Go.Proofs.Ytnpiljegdiconaa
namespace Go.Proofs.Ytnpiljegdiconaa
open Go.ChangeShapes Go.WideShapes Go.ChangeAt Go.RowKit
open Go.ChangeMaps (open_string shut_string)
set_option linter.unusedVariables false
set_option maxRecDepth 100000
structure BxN (lo mid hi : Nat) (w : World) (x : BxD) : Prop where
 t : MOwn lo mid w (.slice x.aT x.two.length x.cT) x.two
 n : FOwn wiEnc 12 125 mid w (.slice x.aN x.net.length x.cN) x.net
 g : FOwn boEnc 1 4 mid w (.slice x.aG x.ga.length x.cG) x.ga
 i : FOwn ikEnc 8 30 mid w (.slice x.aL x.ln.length x.cL) x.ln
 s : FOwn ouEnc 8 135 mid w (.slice x.aS x.sd.length x.cS) x.sd
 nh : ∀ b, (Value.slice x.aN x.net.length x.cN).ownBlock = some b → b < hi
 gh : ∀ b, (Value.slice x.aG x.ga.length x.cG).ownBlock = some b → b < hi
 ih : ∀ b, (Value.slice x.aL x.ln.length x.cL).ownBlock = some b → b < hi
 sh : ∀ b, (Value.slice x.aS x.sd.length x.cS).ownBlock = some b → b < hi
 lm : lo ≤ mid
 mh : mid ≤ hi
theorem BxN.m {lo mid hi : Nat} {w : World} {x : BxD} (h : BxN lo mid hi w x) : BxM lo hi w x :=
 ⟨h.t.wide (Nat.le_refl _) h.mh, h.n.base h.lm, h.g.base h.lm, h.i.base h.lm, h.s.base h.lm, h.nh, h.gh, h.ih, h.sh, fun j hj b e e2 => by
  have h1 := h.t.nhi j hj b e
  have h2 := (h.i.lt b e2).1
  omega⟩
def twoD : List MiD := [⟨⟨true, 1, 1, [], 0, 0, 0⟩, none, 0⟩, ⟨⟨true, 2, 0, [], 0, 0, 0⟩, none, 0⟩]
theorem FOwn.nilM {X : Type} {enc : X → List Value} {n : Nat} {T : TypeId} {base : Nat} {w : World} : FOwn enc n T base w (.slice none 0 0) ([] : List X) := ⟨by simp [fcells], .inl ⟨rfl, rfl⟩⟩
theorem twoOwn (w : World) : MOwn w.heap.size (w.heap.size + 1) (w.alloc (Obj.cells #[.bool true, .int .i64 1, .int .i64 1, .slice none 0 0, .int .i64 0, .int .i64 0, .int .i64 0, .bool true, .int .i64 2, .int .i64 0, .slice none 0 0, .int .i64 0, .int .i64 0, .int .i64 0] 26)) (.slice (some ⟨w.heap.size, 0, none⟩) 2 2) twoD := by
 have hn : ∀ i, i < twoD.length → (twoD.getD i MiD.nil).v = .slice none 0 0 ∧ (twoD.getD i MiD.nil).m.lg = [] := fun i hi => by
  match i, hi with
  | 0, _ => exact ⟨rfl, rfl⟩
  | 1, _ => exact ⟨rfl, rfl⟩
 have hb : ∀ i, i < twoD.length → ∀ g, (twoD.getD i MiD.nil).v.ownBlock ≠ some g := fun i hi g e => by
  rw [(hn i hi).1] at e
  cases e
 refine ⟨⟨rfl, .inr ⟨w.heap.size, 2, #[.bool true, .int .i64 1, .int .i64 1, .slice none 0 0, .int .i64 0, .int .i64 0, .int .i64 0, .bool true, .int .i64 2, .int .i64 0, .slice none 0 0, .int .i64 0, .int .i64 0, .int .i64 0], rfl, Nat.le_refl _, heap_newF w _, Nat.le_refl _, by unfold maxLen; omega, rfl, rfl⟩⟩, fun i hi => ?_, fun g e => ?_, fun i hi g e => absurd e (hb i hi g), fun i hi g h _ e => absurd e (hb i hi h), fun i j _ hj g h _ e => absurd e (hb j hj h)⟩
 ·
  rw [(hn i hi).1, (hn i hi).2]
  exact FOwn.nilM
 ·
  obtain rfl : w.heap.size = g := by simpa [Value.ownBlock] using e
  omega
theorem newL_le (id po : Int) : (newL id po).length ≤ 4 := by
 unfold newL
 split
 ·
  next h =>
  unfold nOk at h
  simp at h ⊢
  omega
 ·
  simp
theorem newBx_okB (id po : Int) : bxOk (newBx id po) = nOk id po := by
 cases h : nOk id po
 ·
  unfold bxOk newBx
  simp [h]
 ·
  exact newBx_ok h
def newX (id po : Int) : Bx := if nOk id po then newBx id po else BxD.zero.p
theorem newX_p (id po : Int) (q : Nat) (a : Option Addr) (c : Nat) : BxD.p ⟨id, po, ⟨1, 0, 0⟩, twoD, some ⟨q, 0, none⟩, 2, [], none, 0, gatesR (newL id po), a, c, [], none, 0, [], none, 0⟩ = newBx id po := rfl
theorem newX_sm (id po : Int) (q : Nat) (a : Option Addr) (c : Nat) : BxSm ⟨id, po, ⟨1, 0, 0⟩, twoD, some ⟨q, 0, none⟩, 2, [], none, 0, gatesR (newL id po), a, c, [], none, 0, [], none, 0⟩ := by
 have h := newL_le id po
 have hg : (gatesR (newL id po)).length ≤ 4 := by rw [gatesR_len]; exact h
 refine ⟨?_, ?_, Nat.zero_le _, ?_, Nat.zero_le _, Nat.zero_le _⟩
 ·
  show (2 : Nat) ≤ _; omega
 ·
  show (0 : Nat) ≤ _; omega
 ·
  show (gatesR (newL id po)).length ≤ _; omega
theorem zero_sm : BxSm BxD.zero := ⟨Nat.zero_le _, Nat.zero_le _, Nat.zero_le _, Nat.zero_le _, Nat.zero_le _, Nat.zero_le _⟩
theorem zeroN {lo hi : Nat} {w : World} (h : lo ≤ hi) : BxN lo lo hi w BxD.zero := by
 refine ⟨⟨FOwn.nilM, fun i hi => absurd hi (Nat.not_lt_zero _), fun g e => (by cases e), fun i hi => absurd hi (Nat.not_lt_zero _), fun i hi => absurd hi (Nat.not_lt_zero _), fun i j _ hj => absurd hj (Nat.not_lt_zero _)⟩, FOwn.nilM, FOwn.nilM, FOwn.nilM, FOwn.nilM, fun b e => (by cases e), fun b e => (by cases e), fun b e => (by cases e), fun b e => (by cases e), Nat.le_refl _, h⟩
end Go.Proofs.Ytnpiljegdiconaa
