import Derived.Test.YtjmnaeeknomiaaaGreatDoorRM19
import Derived.Test.YtjmnaeeknomiaaaGreatDoorRKWBxd9
namespace Go.Proofs.YtjmnaeeknomiaaaGreatDoor
open Go.ChangeShapes Go.WideShapes Go.ChangeAt Go.RowKit
open Go.ChangeMaps (open_string shut_string)
set_option linter.unusedVariables false
set_option maxRecDepth 100000
set_option maxHeartbeats 32000000
set_option linter.unusedSimpArgs false
open Go.Proofs.Tryz
attribute [local go_sem] ji ja bc
structure Bt (w : World) (q : Nat) (d : De) : Prop where
 c0 : w.cell? (ja q 0) = some (ji d.k)
 c1 : w.cell? (ja q 1) = some (ji d.a)
 c2 : w.cell? (ja q 2) = some (ji d.x.k)
 c3 : w.cell? (ja q 3) = some (ji d.x.q)
 c4 : w.cell? (ja q 4) = some (ji d.x.r)
 c5 : w.cell? (ja q 5) = some (ji d.x.c)
 c6 : w.cell? (ja q 6) = some (ji d.x.b)
 c7 : w.cell? (ja q 7) = some (ji d.x.p)
 c8 : w.cell? (ja q 8) = some (ji d.x.h)
 c9 : w.cell? (ja q 9) = some (.bool d.x.up)
theorem Bt.all {w : World} {q : Nat} {d : De} (h : Bt w q d) : w.cell? (ja q 0) = some (ji d.k) ∧ w.cell? (ja q 1) = some (ji d.a) ∧ w.cell? (ja q 2) = some (ji d.x.k) ∧ w.cell? (ja q 3) = some (ji d.x.q) ∧ w.cell? (ja q 4) = some (ji d.x.r) ∧ w.cell? (ja q 5) = some (ji d.x.c) ∧ w.cell? (ja q 6) = some (ji d.x.b) ∧ w.cell? (ja q 7) = some (ji d.x.p) ∧ w.cell? (ja q 8) = some (ji d.x.h) ∧ w.cell? (ja q 9) = some (.bool d.x.up) := ⟨h.c0, h.c1, h.c2, h.c3, h.c4, h.c5, h.c6, h.c7, h.c8, h.c9⟩
theorem Bt.keep {w w' : World} {q : Nat} {d : De} (h : Bt w q d) (k : w'.heap[q]? = w.heap[q]?) : Bt w' q d :=
 ⟨(World.cell?_of_block (a := (ja q 0)) k).trans h.c0, (World.cell?_of_block (a := (ja q 1)) k).trans h.c1, (World.cell?_of_block (a := (ja q 2)) k).trans h.c2, (World.cell?_of_block (a := (ja q 3)) k).trans h.c3, (World.cell?_of_block (a := (ja q 4)) k).trans h.c4, (World.cell?_of_block (a := (ja q 5)) k).trans h.c5, (World.cell?_of_block (a := (ja q 6)) k).trans h.c6, (World.cell?_of_block (a := (ja q 7)) k).trans h.c7, (World.cell?_of_block (a := (ja q 8)) k).trans h.c8, (World.cell?_of_block (a := (ja q 9)) k).trans h.c9⟩
theorem Bt.below {w w' : World} {q n : Nat} {d : De} (h : Bt w q d) (k : Below n w w') (hq : q < n) : Bt w' q d := h.keep (k.block q hq)
theorem Bt.lt {w : World} {q : Nat} {d : De} (h : Bt w q d) : q < w.heap.size := World.block_lt_of_cell? w _ h.c0
theorem Bt.new (w : World) (t : TypeId) (d : De) : Bt (w.alloc (Obj.cells #[ji d.k, ji d.a, ji d.x.k, ji d.x.q, ji d.x.r, ji d.x.c, ji d.x.b, ji d.x.p, ji d.x.h, .bool d.x.up] t)) w.heap.size d := by
 refine ⟨?_, ?_, ?_, ?_, ?_, ?_, ?_, ?_, ?_, ?_⟩ <;> simp [go_sem]
theorem AL.keepZ {base q : Nat} {w w' : World} {x : AF} (h : AL base w x) (hz : Aj w q) (k : ∀ g, g ≠ q → w'.heap[g]? = w.heap[g]?) : AL base w' x :=
 ⟨h.t.keep (fun g_ e => k g_ (fun e2 => h.t.notZ hz (by decide) (by rw [← e2]; exact e))), fun j hj => (h.l j hj).keep (fun g_ e => k g_ (fun e2 => (h.l j hj).notZ hz (by decide) (by rw [← e2]; exact e))), h.n.keep (fun g_ e => k g_ (fun e2 => h.n.notZ hz (by decide) (by rw [← e2]; exact e))), h.g.keep (fun g_ e => k g_ (fun e2 => h.g.notZ hz (by decide) (by rw [← e2]; exact e))), h.i.keep (fun g_ e => k g_ (fun e2 => h.i.notZ hz (by decide) (by rw [← e2]; exact e))), h.s.keep (fun g_ e => k g_ (fun e2 => h.s.notZ hz (by decide) (by rw [← e2]; exact e))), h.ap⟩
theorem HU (x : AF) (d : De) (w y : World) (hy : y = ((w.alloc (Obj.cells (bc x) 63)).alloc (Obj.cells #[ji d.k, ji d.a, ji d.x.k, ji d.x.q, ji d.x.r, ji d.x.c, ji d.x.b, ji d.x.p, ji d.x.h, .bool d.x.up] 210)).alloc (Obj.cells #[ji 0, ji 0, ji 0, ji 0, ji 0, .slice none 0 0, .slice none 0 0, .slice none 0 0, .slice none 0 0, .slice none 0 0] 63)) : Bw w y ∧ Af y w.heap.size x ∧ Bt y (w.heap.size + 1) d ∧ Aj y (w.heap.size + 1 + 1) := by
 obtain ⟨w1, h1⟩ := AC (w.alloc (Obj.cells (bc x) 63));obtain ⟨w2, h2⟩ := AC (w1.alloc (Obj.cells #[ji d.k, ji d.a, ji d.x.k, ji d.x.q, ji d.x.r, ji d.x.c, ji d.x.b, ji d.x.p, ji d.x.h, .bool d.x.up] 210));rw [← h1, ← h2] at hy;have s1 : w1.heap.size = w.heap.size + 1 := by rw [h1]; simp
 have s2 : w2.heap.size = w.heap.size + 1 + 1 := by rw [h2]; simp [s1]
 have k1 : Bw w w1 := by rw [h1]; exact Ax _
 have k2 : Bw w1 w2 := by rw [h2]; exact Ax _
 have k3 : Bw w2 y := by rw [hy]; exact Ax _
 have A1 : Af w1 w.heap.size x := by rw [h1]; exact Af.new w _ x
 have D1 : Bt w2 w1.heap.size d := by rw [h2]; exact Bt.new w1 _ d
 refine ⟨(AG k1 k2).trans (k3.mono (AG k1 k2).size), (A1.below k2 A1.lt).below k3 (by omega), ?_, ?_⟩
 ·
  rw [← s1]; exact D1.below k3 D1.lt
 rw [← s2, hy]; exact Cl w2 _
theorem Aj.lt_ {W : World} {q : Nat} (h : Aj W q) : q < W.heap.size := (Array.getElem?_eq_some_iff.1 h).1
def PZ (w W : World) : Prop := w.heap.size ≤ W.heap.size ∧ ∀ z, Aj w z → Aj W z
theorem PZ.of {w W : World} (k : Bw w W) : PZ w W := ⟨k.size, fun z h => (k.block z h.lt_).trans h⟩
theorem PZ.later {w W W2 : World} (h : PZ w W) (k : Bw W W2) : PZ w W2 := ⟨Nat.le_trans h.1 k.size, fun z hz => (k.block z (h.2 z hz).lt_).trans (h.2 z hz)⟩
theorem PZ.keep {w W W2 : World} {n : Nat} (h : PZ w W) (hn : w.heap.size ≤ n) (k : ∀ g, g ≠ n → W2.heap[g]? = W.heap[g]?) (hs : W.heap.size ≤ W2.heap.size) : PZ w W2 := ⟨Nat.le_trans h.1 hs, fun z hz => (k z (by have := hz.lt_; omega)).trans (h.2 z hz)⟩
theorem PZ.row {w W W2 : World} {X : Type} {enc : X → List Value} {n : Nat} {T : TypeId} {base : Nat} {v : Value} {L : List X} {g : Nat} (h : PZ w W) (f : AA enc n T base W v L) (hT : T ≠ 63) (hg : v.ownBlock = some g) (k : ∀ g_, g_ ≠ g → W2.heap[g_]? = W.heap[g_]?) (hs : W.heap.size ≤ W2.heap.size) : PZ w W2 := ⟨Nat.le_trans h.1 hs, fun z hz => (k z (fun e => f.notZ (h.2 z hz) hT (by rw [e]; exact hg))).trans (h.2 z hz)⟩
theorem PZ.grown {w W W2 : World} {X : Type} {enc : X → List Value} {n : Nat} {T : TypeId} {base : Nat} {v : Value} {L : List X} (h : PZ w W) (f : AA enc n T base W v L) (hT : T ≠ 63) (gN : W.grownBy W2 v.ownBlock) : PZ w W2 := ⟨Nat.le_trans h.1 gN.size, fun z hz => (gN.block z (h.2 z hz).lt_ (fun e => f.notZ (h.2 z hz) hT e.symm)).trans (h.2 z hz)⟩
theorem PZ.trans {a b c : World} (h : PZ a b) (k : PZ b c) : PZ a c := ⟨Nat.le_trans h.1 k.1, fun z hz => k.2 z (h.2 z hz)⟩
theorem AS.new (w : World) (t : TypeId) (x : AF) : AS (w.alloc (Obj.cells (bc x) t)) w.heap.size x := by
 refine ⟨Af.new w _ x, fun i => ?_⟩; simp [go_sem]
theorem Aj.keep {w w' : World} {q : Nat} (h : Aj w q) (k : w'.heap[q]? = w.heap[q]?) : Aj w' q := k.trans h
theorem AI.oneW (w : World) (t : TypeId) (v : Wi) : AI As (w.alloc (Obj.cells #[ji v.fr, .bool v.ak, ji v.li, ji v.n, ji v.x.k, ji v.x.q, ji v.x.r, ji v.x.c, ji v.x.b, ji v.x.p, ji v.x.h, .bool v.x.up] t)) (some (ja w.heap.size 0)) [v] := by
 intro _;refine ⟨w.heap.size, 0, rfl, fun j u hv => ?_⟩;simp only [AT, As, List.append_nil] at hv;have hj : j < 12 := (List.getElem?_eq_some_iff.1 hv).1;rcases (by omega : j = 0 ∨ j = 1 ∨ j = 2 ∨ j = 3 ∨ j = 4 ∨ j = 5 ∨ j = 6 ∨ j = 7 ∨ j = 8 ∨ j = 9 ∨ j = 10 ∨ j = 11) with rfl | rfl | rfl | rfl | rfl | rfl | rfl | rfl | rfl | rfl | rfl | rfl <;> (cases hv; simp [go_sem])
theorem Cw.keep {w w' : World} {q o : Nat} {x : Wi} (h : Cw w q o x) (k : w'.heap[q]? = w.heap[q]?) : Cw w' q o x := ⟨(World.cell?_of_block (a := ⟨q, o, none⟩) k).trans h.c0, (World.cell?_of_block (a := ⟨q, o + 1, none⟩) k).trans h.c1, (World.cell?_of_block (a := ⟨q, o + 2, none⟩) k).trans h.c2, (World.cell?_of_block (a := ⟨q, o + 3, none⟩) k).trans h.c3, (World.cell?_of_block (a := ⟨q, o + 4, none⟩) k).trans h.c4, (World.cell?_of_block (a := ⟨q, o + 5, none⟩) k).trans h.c5, (World.cell?_of_block (a := ⟨q, o + 6, none⟩) k).trans h.c6, (World.cell?_of_block (a := ⟨q, o + 7, none⟩) k).trans h.c7, (World.cell?_of_block (a := ⟨q, o + 8, none⟩) k).trans h.c8, (World.cell?_of_block (a := ⟨q, o + 9, none⟩) k).trans h.c9, (World.cell?_of_block (a := ⟨q, o + 10, none⟩) k).trans h.c10, (World.cell?_of_block (a := ⟨q, o + 11, none⟩) k).trans h.c11⟩
theorem Cw.lt {w : World} {q o : Nat} {x : Wi} (h : Cw w q o x) : q < w.heap.size := World.block_lt_of_cell? w _ h.c0
theorem Cw.bl {w w' : World} {q o n : Nat} {x : Wi} (h : Cw w q o x) (k : Below n w w') (hq : q < n) : Cw w' q o x := h.keep (k.block q hq)
theorem Cw.new (w : World) (t : TypeId) (v : Wi) : Cw (w.alloc (Obj.cells #[ji v.fr, .bool v.ak, ji v.li, ji v.n, ji v.x.k, ji v.x.q, ji v.x.r, ji v.x.c, ji v.x.b, ji v.x.p, ji v.x.h, .bool v.x.up] t)) w.heap.size 0 v := by
 constructor <;> simp [go_sem]
theorem EL {x : AF} (h : BA x.p = true) : x.two.length = 2 ∧ (∀ k, k < 2 → BM (x.two.getD k AD.nil).m = true) ∧ x.net.length ≤ 20 ∧ x.ga.length ≤ 4 ∧ x.ln.length ≤ 60 ∧ x.sd.length ≤ 40 := by
 obtain ⟨h1, h2, h3, h4, h5, h6, h7, h8, h9, h10⟩ := Eb.1 h;have e : x.two.length = 2 := by have h3 : (x.two.map AD.m).length = 2 := h3; simpa using h3
 refine ⟨e, ?_, h7, ?_, ?_, h10⟩
 ·
  intro k hk;rcases (by omega : k = 0 ∨ k = 1) with rfl | rfl
  ·
   rw [Ch] at h4; exact h4
  rw [Ch] at h5; exact h5
 ·
  unfold Au at h1;simp only [Bool.and_eq_true, decide_eq_true_eq] at h1;have h8 : (x.ga.length : Int) = x.po := h8;have := h1.2.2;have h9 : x.p.po = x.po := rfl;omega
 unfold DN at h9;simp only [Bool.and_eq_true, decide_eq_true_eq] at h9;exact h9.2
theorem Ei {m : Mi} (h : BM m = true) : m.lg.length ≤ 60 := by
 obtain ⟨_, _, _, h4, _⟩ := FT.1 h;unfold DN at h4;simp only [Bool.and_eq_true, decide_eq_true_eq] at h4;exact h4.2
theorem AL.okV {base : Nat} {w : World} {x : AF} (h : AL base w x) (hb : BA x.p = true) : Ck w x := by
 obtain ⟨a, b, c, d, e, f⟩ := EL hb;exact h.view (by omega) (fun i hi => by have := Ei (b i (by omega)); omega) (by omega) (by omega) (by omega) (by omega)
structure Aa (base q z : Nat) (w W : World) (x : AF) : Prop where
 O : AL base W x
 A : AS W q x
 NA : Ai q x
 Z : Aj W z
 NZ : Ai z x
 B : Below base w W
 b0 : base ≤ q
 bz : base ≤ z
 ne : z ≠ q
theorem Aa.sz {base q z : Nat} {w W : World} {x : AF} (h : Aa base q z w W x) : base ≤ W.heap.size := Nat.le_trans h.b0 (Nat.le_of_lt h.A.lt)
theorem Aa.later {base q z : Nat} {w W W' : World} {x : AF} (h : Aa base q z w W x) (k : Bw W W') : Aa base q z w W' x :=
 ⟨h.O.later k, h.A.below k h.A.lt, h.NA, (k.block _ (BR h.Z)).trans h.Z, h.NZ, h.B.trans (k.mono h.sz), h.b0, h.bz, h.ne⟩
theorem Aa.keepN {base q z n : Nat} {w W W' : World} {x : AF} (h : Aa base q z w W x) (hn : Ai n x) (h1 : n ≠ q) (h2 : n ≠ z) (k : ∀ g, g ≠ n → W'.heap[g]? = W.heap[g]?) (hB : Below base w W') : Aa base q z w W' x :=
 ⟨h.O.keepQ hn k, h.A.keep (k _ (fun e => h1 e.symm)), h.NA, h.Z.keep (k _ (fun e => h2 e.symm)), h.NZ, hB, h.b0, h.bz, h.ne⟩
theorem Aa.ret {base q z : Nat} {w W : World} {x : AF} (h : Aa base q z w W x) : AL base ((((((((((W.setCell (ja z 0) (ji x.id)).setCell (ja z 1) (ji x.po)).setCell (ja z 2) (ji x.rg.ep)).setCell (ja z 3) (ji x.rg.ow)).setCell (ja z 4) (ji x.rg.pa)).setCell (ja z 5) (.slice x.aT x.two.length x.cT)).setCell (ja z 6) (.slice x.aN x.net.length x.cN)).setCell (ja z 7) (.slice x.aG x.ga.length x.cG)).setCell (ja z 8) (.slice x.aL x.ln.length x.cL)).setCell (ja z 9) (.slice x.aS x.sd.length x.cS)) x ∧ Below base w ((((((((((W.setCell (ja z 0) (ji x.id)).setCell (ja z 1) (ji x.po)).setCell (ja z 2) (ji x.rg.ep)).setCell (ja z 3) (ji x.rg.ow)).setCell (ja z 4) (ji x.rg.pa)).setCell (ja z 5) (.slice x.aT x.two.length x.cT)).setCell (ja z 6) (.slice x.aN x.net.length x.cN)).setCell (ja z 7) (.slice x.aG x.ga.length x.cG)).setCell (ja z 8) (.slice x.aL x.ln.length x.cL)).setCell (ja z 9) (.slice x.aS x.sd.length x.cS)) :=
 ⟨h.O.keepQ h.NZ (fun g hg => Ak W z g x hg), CO (q := z) x h.B h.bz⟩
theorem Aa.pz {base q z : Nat} {w W : World} {x : AF} (h : Aa base q z w W x) (P : PZ w W) (hz : w.heap.size ≤ z) : PZ w ((((((((((W.setCell (ja z 0) (ji x.id)).setCell (ja z 1) (ji x.po)).setCell (ja z 2) (ji x.rg.ep)).setCell (ja z 3) (ji x.rg.ow)).setCell (ja z 4) (ji x.rg.pa)).setCell (ja z 5) (.slice x.aT x.two.length x.cT)).setCell (ja z 6) (.slice x.aN x.net.length x.cN)).setCell (ja z 7) (.slice x.aG x.ga.length x.cG)).setCell (ja z 8) (.slice x.aL x.ln.length x.cL)).setCell (ja z 9) (.slice x.aS x.sd.length x.cS)) :=
 P.keep hz (fun g hg => Ak W z g x hg) (by simp)
theorem AA.blk {X : Type} {enc : X → List Value} {n : Nat} {T : TypeId} {base : Nat} {w : World} {ad : Option Addr} {cap : Nat} {L : List X} (h : AA enc n T base w (.slice ad L.length cap) L) (hp : 0 < L.length) : ∃ g, ad = some (ja g 0) ∧ base ≤ g ∧ g < w.heap.size := by
 rcases h.2 with ⟨e, h0⟩ | ⟨g, c, cur, e, _⟩
 ·
  simp only [Value.slice.injEq] at e;omega
 simp only [Value.slice.injEq] at e;obtain ⟨e1, _, _⟩ := e;subst e1;exact ⟨g, rfl, h.lt g rfl⟩
theorem Aa.setT {base q z : Nat} {w W : World} {x : AF} (h : Aa base q z w W x) {g k : Nat} (hat : x.aT = some (ja g 0)) (hk : k < x.two.length) (d : AD) (hd : AA AW 8 27 base W (.slice d.ad d.m.lg.length d.cap) d.m.lg) (hap : ∀ g_, (Value.slice d.ad d.m.lg.length d.cap).ownBlock = some g_ → (Value.slice x.aL x.ln.length x.cL).ownBlock ≠ some g_) (hnq : ∀ g_, (Value.slice d.ad d.m.lg.length d.cap).ownBlock = some g_ → g_ ≠ q ∧ g_ ≠ z) :
  Aa base q z w (Cg W g (k * 7) (BG d)) (x.setT k d) := by
 have kp : ∀ k_, k_ ≠ g → (Cg W g (k * 7) (BG d)).heap[k_]? = W.heap[k_]? := fun k_ hk_ => DH (BG d) W (k * 7) k_ hk_
 have gq : g ≠ q := h.NA.t g (BP hat rfl);have gz : g ≠ z := h.NZ.t g (BP hat rfl);have A := h.A.keep (kp _ (fun e => gq e.symm));have hl : (x.setT k d).two.length = x.two.length := by unfold AF.setT; simp
 have NE : ∀ {q' : Nat}, Ai q' x → (∀ g_, (Value.slice d.ad d.m.lg.length d.cap).ownBlock = some g_ → g_ ≠ q') → Ai q' (x.setT k d) := fun hN hd' => ⟨by rw [hl]; exact hN.t, hN.n, hN.g, hN.i, hN.s, EZ x.two k d (fun y => ∀ b, (Value.slice y.ad y.m.lg.length y.cap).ownBlock = some b → b ≠ _) hN.l hd'⟩
 refine ⟨h.O.setT hat hk d hd hap, ⟨⟨A.at_.c0, A.at_.c1, A.at_.c2, A.at_.c3, A.at_.c4, by rw [hl]; exact A.at_.c5, A.at_.c6, A.at_.c7, A.at_.c8, A.at_.c9⟩, A.fr⟩, NE h.NA (fun g_ e => (hnq g_ e).1), h.Z.keep (kp _ (fun e => gz e.symm)), NE h.NZ (fun g_ e => (hnq g_ e).2), ?_, h.b0, h.bz, h.ne⟩;exact Dp (h.O.t.lt g (BP hat rfl)).1 (BG d) (k * 7) h.B
theorem Aa.putN {base q z : Nat} {w W W2 : World} {x : AF} (h : Aa base q z w W x) (N : List Wi) (a : Option Addr) (c : Nat) (oN : AA As 12 164 base W2 (.slice a N.length c) N) (hk : ∀ g, g < W.heap.size → (Value.slice x.aN x.net.length x.cN).ownBlock ≠ some g → W2.heap[g]? = W.heap[g]?) (hB : Below base w W2) (hq : ∀ b, (Value.slice a N.length c).ownBlock = some b → b ≠ q ∧ b ≠ z) :
  AS W2 q x ∧ Aa base q z w (W2.setCell (ja q 6) (.slice a N.length c)) { x with net := N, aN := a, cN := c } := by
 have A := h.A.keep (hk _ h.A.lt (fun e => h.NA.n _ e rfl));have Z := h.Z.keep (hk _ (BR h.Z) (fun e => h.NZ.n _ e rfl));have kp : ∀ g, g ≠ q → (W2.setCell (ja q 6) (.slice a N.length c)).heap[g]? = W2.heap[g]? := fun g hg => AE hg
 have NE3 : Ai q { x with net := N, aN := a, cN := c } := ⟨h.NA.t, fun b e => (hq b e).1, h.NA.g, h.NA.i, h.NA.s, h.NA.l⟩;have O := (h.O.setN N a c oN hk).keepQ NE3 kp;exact ⟨A, O, A.sN N a N.length c rfl, NE3, Z.keep (kp _ h.ne), ⟨h.NZ.t, fun b e => (hq b e).2, h.NZ.g, h.NZ.i, h.NZ.s, h.NZ.l⟩, hB.setCell (p := (ja q 6)) h.b0 _, h.b0, h.bz, h.ne⟩
theorem Aa.addN {base q z : Nat} {w W W2 : World} {x : AF} (h : Aa base q z w W x) (N : List Wi) (v : Value) (oN : AA As 12 164 base W2 v N) (gN : W.grownBy W2 (Value.slice x.aN x.net.length x.cN).ownBlock) (hob : v.ownBlock = (Value.slice x.aN x.net.length x.cN).ownBlock ∨ v.ownBlock = some W.heap.size) :
  ∃ a c, v = .slice a N.length c ∧ AS W2 q x ∧ Aa base q z w (W2.setCell (ja q 6) (.slice a N.length c)) { x with net := N, aN := a, cN := c } ∧ ∀ n, n < W.heap.size → Ai n x → W2.heap[n]? = W.heap[n]? ∧ Ai n { x with net := N, aN := a, cN := c } := by
 obtain ⟨a, c, rfl⟩ := oN.open_;have hk : ∀ g, g < W.heap.size → (Value.slice x.aN x.net.length x.cN).ownBlock ≠ some g → W2.heap[g]? = W.heap[g]? := fun g h1 h2 => gN.block g h1 (fun e => h2 e.symm)
 have hq : ∀ n, n < W.heap.size → Ai n x → ∀ b, (Value.slice a N.length c).ownBlock = some b → b ≠ n := fun n hn hN b e => hob.elim (fun e2 => by rw [e2] at e; exact hN.n b e) (fun e2 => by rw [e2] at e; have := Option.some.inj e; omega)
 obtain ⟨A, S⟩ := h.putN N a c oN hk (h.B.grown gN h.sz (fun k e => (h.O.n.lt k e).1)) (fun b e => ⟨hq q h.A.lt h.NA b e, hq z (BR h.Z) h.NZ b e⟩);exact ⟨a, c, rfl, A, S, fun n hn hN => ⟨hk n hn (fun e => hN.n _ e rfl), hN.t, hq n hn hN, hN.g, hN.i, hN.s, hN.l⟩⟩
theorem Aa.setR {base q z : Nat} {w W : World} {x : AF} (h : Aa base q z w W x) (r : Rg) : Aa base q z w (((W.setCell (ja q 2) (ji r.ep)).setCell (ja q 3) (ji r.ow)).setCell (ja q 4) (ji r.pa)) { x with rg := r } := by
 have kp : ∀ g, g ≠ q → (((W.setCell (ja q 2) (ji r.ep)).setCell (ja q 3) (ji r.ow)).setCell (ja q 4) (ji r.pa)).heap[g]? = W.heap[g]? := fun g hg => by rw [AE hg, AE hg, AE hg]
 have O := h.O.keepQ h.NA kp;exact ⟨⟨O.t, O.l, O.n, O.g, O.i, O.s, O.ap⟩, h.A.sR r, ⟨h.NA.t, h.NA.n, h.NA.g, h.NA.i, h.NA.s, h.NA.l⟩, h.Z.keep (kp _ h.ne), ⟨h.NZ.t, h.NZ.n, h.NZ.g, h.NZ.i, h.NZ.s, h.NZ.l⟩, ((h.B.setCell (p := (ja q 2)) h.b0 _).setCell (p := (ja q 3)) h.b0 _).setCell (p := (ja q 4)) h.b0 _, h.b0, h.bz, h.ne⟩
theorem HJ {base : Nat} (x : AF) (w y : World) (hO : AL base w x) (hbw : base ≤ w.heap.size) (hy : y = (w.alloc (Obj.cells (bc x) 63)).alloc (Obj.cells #[ji 0, ji 0, ji 0, ji 0, ji 0, .slice none 0 0, .slice none 0 0, .slice none 0 0, .slice none 0 0, .slice none 0 0] 63)) : Aa base w.heap.size (w.heap.size + 1) w y x ∧ Bw w y := by
 obtain ⟨w1, h1, k1⟩ := AM w (Obj.cells (bc x) 63);rw [← h1] at hy;have s1 : w1.heap.size = w.heap.size + 1 := by rw [h1]; simp
 have k3 : Bw w1 y := by rw [hy]; exact Ax _
 have A1 : AS w1 w.heap.size x := by rw [h1]; exact AS.new w _ x
 have kk := AG k1 k3;refine ⟨⟨hO.later kk, A1.below k3 A1.lt, hO.ne (Nat.le_refl _), ?_, hO.ne (Nat.le_succ _), kk.mono hbw, hbw, by omega, by omega⟩, kk⟩;rw [← s1, hy]; exact Cl w1 _
theorem GY {base : Nat} (x : AF) (d : De) (w y : World) (hO : AL base w x) (hbw : base ≤ w.heap.size) (hy : y = ((w.alloc (Obj.cells (bc x) 63)).alloc (Obj.cells #[ji d.k, ji d.a, ji d.x.k, ji d.x.q, ji d.x.r, ji d.x.c, ji d.x.b, ji d.x.p, ji d.x.h, .bool d.x.up] 210)).alloc (Obj.cells #[ji 0, ji 0, ji 0, ji 0, ji 0, .slice none 0 0, .slice none 0 0, .slice none 0 0, .slice none 0 0, .slice none 0 0] 63)) : Aa base w.heap.size (w.heap.size + 1 + 1) w y x ∧ Bt y (w.heap.size + 1) d ∧ Bw w y ∧ Ai (w.heap.size + 1) x := by
 obtain ⟨w1, h1⟩ := AC (w.alloc (Obj.cells (bc x) 63));obtain ⟨w2, h2⟩ := AC (w1.alloc (Obj.cells #[ji d.k, ji d.a, ji d.x.k, ji d.x.q, ji d.x.r, ji d.x.c, ji d.x.b, ji d.x.p, ji d.x.h, .bool d.x.up] 210));rw [← h1, ← h2] at hy;have s1 : w1.heap.size = w.heap.size + 1 := by rw [h1]; simp
 have s2 : w2.heap.size = w.heap.size + 1 + 1 := by rw [h2]; simp [s1]
 have k1 : Bw w w1 := by rw [h1]; exact Ax _
 have k2 : Bw w1 w2 := by rw [h2]; exact Ax _
 have k3 : Bw w2 y := by rw [hy]; exact Ax _
 have A1 : AS w1 w.heap.size x := by rw [h1]; exact AS.new w _ x
 have D1 : Bt w2 w1.heap.size d := by rw [h2]; exact Bt.new w1 _ d
 have kk := (AG k1 k2).trans (k3.mono (AG k1 k2).size);refine ⟨⟨hO.later kk, (A1.below k2 A1.lt).below k3 (by omega), hO.ne (Nat.le_refl _), ?_, hO.ne (by omega), kk.mono hbw, hbw, by omega, by omega⟩, ?_, kk, hO.ne (Nat.le_succ _)⟩
 ·
  rw [← s2, hy]; exact Cl w2 _
 rw [← s1]; exact D1.below k3 D1.lt
theorem I6 {base : Nat} (x : AF) (v : Wi) (w y : World) (hO : AL base w x) (hbw : base ≤ w.heap.size) (hy : y = ((w.alloc (Obj.cells (bc x) 63)).alloc (Obj.cells #[ji v.fr, .bool v.ak, ji v.li, ji v.n, ji v.x.k, ji v.x.q, ji v.x.r, ji v.x.c, ji v.x.b, ji v.x.p, ji v.x.h, .bool v.x.up] 164)).alloc (Obj.cells #[ji 0, ji 0, ji 0, ji 0, ji 0, .slice none 0 0, .slice none 0 0, .slice none 0 0, .slice none 0 0, .slice none 0 0] 63)) : Aa base w.heap.size (w.heap.size + 1 + 1) w y x ∧ Cw y (w.heap.size + 1) 0 v ∧ Bw w y ∧ Ai (w.heap.size + 1) x := by
 obtain ⟨w1, h1⟩ := AC (w.alloc (Obj.cells (bc x) 63));obtain ⟨w2, h2⟩ := AC (w1.alloc (Obj.cells #[ji v.fr, .bool v.ak, ji v.li, ji v.n, ji v.x.k, ji v.x.q, ji v.x.r, ji v.x.c, ji v.x.b, ji v.x.p, ji v.x.h, .bool v.x.up] 164));rw [← h1, ← h2] at hy;have s1 : w1.heap.size = w.heap.size + 1 := by rw [h1]; simp
 have s2 : w2.heap.size = w.heap.size + 1 + 1 := by rw [h2]; simp [s1]
 have k1 : Bw w w1 := by rw [h1]; exact Ax _
 have k2 : Bw w1 w2 := by rw [h2]; exact Ax _
 have k3 : Bw w2 y := by rw [hy]; exact Ax _
 have A1 : AS w1 w.heap.size x := by rw [h1]; exact AS.new w _ x
 have D1 : Cw w2 w1.heap.size 0 v := by rw [h2]; exact Cw.new w1 _ v
 have kk := (AG k1 k2).trans (k3.mono (AG k1 k2).size);refine ⟨⟨hO.later kk, (A1.below k2 A1.lt).below k3 (by omega), hO.ne (Nat.le_refl _), ?_, hO.ne (by omega), kk.mono hbw, hbw, by omega, by omega⟩, ?_, kk, hO.ne (Nat.le_succ _)⟩
 ·
  rw [← s2, hy]; exact Cl w2 _
 rw [← s1]; exact D1.bl k3 D1.lt
end Go.Proofs.YtjmnaeeknomiaaaGreatDoor
