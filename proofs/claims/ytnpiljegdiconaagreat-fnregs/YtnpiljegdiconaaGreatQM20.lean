import Derived.Test.YtnpiljegdiconaaGreatQM14
import Derived.Deep.Grids
namespace Go.Proofs.YtnpiljegdiconaaGreat
open Go.ChangeShapes Go.WideShapes Go.ChangeAt Go.RowKit
open Go.ChangeMaps (open_string shut_string)
set_option linter.unusedVariables false
set_option maxRecDepth 100000
def lToM (Bs : List MiD) : Nat → Nat
 | 0 => 0
 | j + 1 => lToM Bs j + (Bs.getD j MiD.nil).m.lg.length
theorem lToM_mono (Bs : List MiD) {i j : Nat} (h : i ≤ j) : lToM Bs i ≤ lToM Bs j := by
 induction h with
 | refl => exact Nat.le_refl _
 | step _ ih => exact Nat.le_trans ih (by show _ ≤ lToM Bs _ + _; omega)
theorem getLM_le (Bs : List MiD) {k : Nat} (h : k < Bs.length) : (Bs.getD k MiD.nil).m.lg.length ≤ lToM Bs Bs.length :=
 Nat.le_trans (by show _ ≤ lToM Bs k + (Bs.getD k MiD.nil).m.lg.length; omega) (lToM_mono Bs (i := k + 1) h)
theorem WiAtO.below {w w' : World} {q o n : Nat} {x : Wi} (h : WiAtO w q o x) (k : Below n w w') (hq : q < n) : WiAtO w' q o x :=
 ⟨(World.cell?_of_block (a := ⟨q, o, none⟩) (k.block q hq)).trans h.c0, (World.cell?_of_block (a := ⟨q, o + 1, none⟩) (k.block q hq)).trans h.c1, (World.cell?_of_block (a := ⟨q, o + 2, none⟩) (k.block q hq)).trans h.c2, (World.cell?_of_block (a := ⟨q, o + 3, none⟩) (k.block q hq)).trans h.c3, (World.cell?_of_block (a := ⟨q, o + 4, none⟩) (k.block q hq)).trans h.c4, (World.cell?_of_block (a := ⟨q, o + 5, none⟩) (k.block q hq)).trans h.c5, (World.cell?_of_block (a := ⟨q, o + 6, none⟩) (k.block q hq)).trans h.c6, (World.cell?_of_block (a := ⟨q, o + 7, none⟩) (k.block q hq)).trans h.c7, (World.cell?_of_block (a := ⟨q, o + 8, none⟩) (k.block q hq)).trans h.c8, (World.cell?_of_block (a := ⟨q, o + 9, none⟩) (k.block q hq)).trans h.c9, (World.cell?_of_block (a := ⟨q, o + 10, none⟩) (k.block q hq)).trans h.c10, (World.cell?_of_block (a := ⟨q, o + 11, none⟩) (k.block q hq)).trans h.c11⟩
end Go.Proofs.YtnpiljegdiconaaGreat
namespace Go.Proofs.YtnpiljegdiconaaGreat
open Go.ChangeShapes Go.WideShapes Go.ChangeAt Go.RowKit
open Go.ChangeMaps (open_string shut_string)
set_option linter.unusedVariables false
set_option maxRecDepth 100000
structure BxIn (w : World) (x : BxD) : Prop where
 t : MV w x.aT x.two
 tm : x.two.length ≤ maxLen
 ts : ∀ i, i < x.two.length → (x.two.getD i MiD.nil).m.lg.length ≤ maxLen
 tc : x.two.length ≤ x.cT
 tn : x.aT = none → x.cT = 0
 n : FView wiEnc w x.aN x.net
 nm : x.net.length ≤ maxLen
 nn : x.aN = none → x.cN = 0
 g : FView boEnc w x.aG x.ga
 gm : x.ga.length ≤ maxLen
 gn : x.aG = none → x.cG = 0
 i : FView ikEnc w x.aL x.ln
 im : x.ln.length ≤ maxLen
 ic : x.aL = none → x.cL = 0
 s : FView ouEnc w x.aS x.sd
 sm : x.sd.length ≤ maxLen
 sn : x.aS = none → x.cS = 0
theorem BxIn.below {w w' : World} {x : BxD} (h : BxIn w x) (k : Below w.heap.size w w') : BxIn w' x :=
 ⟨h.t.below k (Nat.le_refl _), h.tm, h.ts, h.tc, h.tn, h.n.below k (h.n.lt wiEnc_len (by omega)), h.nm, h.nn, h.g.below k (h.g.lt boEnc_len (by omega)), h.gm, h.gn, h.i.below k (h.i.lt ikEnc_len (by omega)), h.im, h.ic, h.s.below k (h.s.lt ouEnc_len (by omega)), h.sm, h.sn⟩
structure BxSm (x : BxD) : Prop where
 t : x.two.length ≤ 1048576
 l : lToM x.two x.two.length ≤ 1048576
 n : x.net.length ≤ 1048576
 g : x.ga.length ≤ 1048576
 i : x.ln.length ≤ 1048576
 s : x.sd.length ≤ 1048576
theorem BxSm.ls {x : BxD} (h : BxSm x) : ∀ i, i < x.two.length → (x.two.getD i MiD.nil).m.lg.length ≤ 1048576 := fun i hi => Nat.le_trans (getLM_le x.two hi) h.l
theorem BxIn.v {w : World} {x : BxD} (h : BxIn w x) (k : BxSm x) : BxV w x :=
 ⟨h.t.row, h.t.nest, h.n, h.g, h.i, h.s, k.t, k.ls, k.n, k.g, k.i, k.s, h.tc⟩
structure BxM (lo hi : Nat) (w : World) (x : BxD) : Prop where
 t : MOwn lo hi w (.slice x.aT x.two.length x.cT) x.two
 n : FOwn wiEnc 12 112 lo w (.slice x.aN x.net.length x.cN) x.net
 g : FOwn boEnc 1 4 lo w (.slice x.aG x.ga.length x.cG) x.ga
 i : FOwn ikEnc 8 105 lo w (.slice x.aL x.ln.length x.cL) x.ln
 s : FOwn ouEnc 8 114 lo w (.slice x.aS x.sd.length x.cS) x.sd
 nh : ∀ b, (Value.slice x.aN x.net.length x.cN).ownBlock = some b → b < hi
 gh : ∀ b, (Value.slice x.aG x.ga.length x.cG).ownBlock = some b → b < hi
 ih : ∀ b, (Value.slice x.aL x.ln.length x.cL).ownBlock = some b → b < hi
 sh : ∀ b, (Value.slice x.aS x.sd.length x.cS).ownBlock = some b → b < hi
 ap : ∀ j, j < x.two.length → ∀ b, (x.two.getD j MiD.nil).v.ownBlock = some b → (Value.slice x.aL x.ln.length x.cL).ownBlock ≠ some b
theorem BxM.in_ {lo hi : Nat} {w : World} {x : BxD} (h : BxM lo hi w x) (k : BxSm x) : BxIn w x := by
 have hm : (1048576 : Nat) ≤ maxLen := by unfold maxLen; omega
 exact ⟨h.t.view.2, Nat.le_trans k.t hm, fun i hi => Nat.le_trans (k.ls i hi) hm, h.t.row.capM, fun e => own_noneM (by have := h.t.row; rw [e] at this; exact this), h.n.view.2, Nat.le_trans k.n hm, fun e => own_noneM (by have := h.n; rw [e] at this; exact this), h.g.view.2, Nat.le_trans k.g hm, fun e => own_noneM (by have := h.g; rw [e] at this; exact this), h.i.view.2, Nat.le_trans k.i hm, fun e => own_noneM (by have := h.i; rw [e] at this; exact this), h.s.view.2, Nat.le_trans k.s hm, fun e => own_noneM (by have := h.s; rw [e] at this; exact this)⟩
end Go.Proofs.YtnpiljegdiconaaGreat
