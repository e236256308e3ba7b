import Derived.Test.YtnpiljegdiconaaQKBxd9
namespace Go.Proofs.Ytnpiljegdiconaa
open Go.ChangeShapes Go.WideShapes Go.ChangeAt Go.RowKit
open Go.ChangeMaps (open_string shut_string)
set_option linter.unusedVariables false
set_option maxRecDepth 100000
theorem ownB {a : Option Addr} {g g' n c : Nat} (h : a = some ⟨g, 0, none⟩) (e : g' = g) : (Value.slice a n c).ownBlock = some g' := by subst h; subst e; rfl
theorem getD_set_md (L : List MiD) (k : Nat) (d : MiD) (F : MiD → Prop) (h1 : ∀ j, j < L.length → F (L.getD j MiD.nil)) (h2 : F d) : ∀ j, j < (L.set k d).length → F ((L.set k d).getD j MiD.nil) := by
 intro j hj
 have hj' : j < L.length := by simpa using hj
 by_cases e : j = k
 ·
  subst e
  simpa [List.getD, List.getElem?_set, hj'] using h2
 ·
  have := h1 j hj'
  have e' : ¬ k = j := fun z => e z.symm
  simpa [List.getD, List.getElem?_set, e'] using this
def BxD.setT (x : BxD) (k : Nat) (d : MiD) : BxD := { x with two := x.two.set k d }
theorem BxD.setT_p (x : BxD) (k : Nat) (d : MiD) : (x.setT k d).p = setM x.p (k : Int) d.m := by
 unfold BxD.setT BxD.p setM
 simp [List.map_set]
theorem BxO.setT {base : Nat} {w : World} {x : BxD} (h : BxO base w x) {g k : Nat} (hat : x.aT = some ⟨g, 0, none⟩) (hk : k < x.two.length) (d : MiD) (hd : FOwn ikEnc 8 30 base w (.slice d.ad d.m.lg.length d.cap) d.m.lg) (hap : ∀ g_, (Value.slice d.ad d.m.lg.length d.cap).ownBlock = some g_ → (Value.slice x.aL x.ln.length x.cL).ownBlock ≠ some g_) :
  BxO base (putAll w g (k * 7) (mdEnc d)) (x.setT k d) := by
 have ht : FOwn mdEnc 7 26 base (putAll w g (k * 7) (mdEnc d)) (.slice x.aT (x.two.set k d).length x.cT) (x.two.set k d) := by
  have h1 := h.t
  rw [hat] at h1 ⊢
  have := h1.set mdEnc_len (by omega) hk d
  rw [List.length_set]; exact this
 refine ⟨ht, ?_, (h.n.keep (fun g_ e => heap_putAll _ _ _ _ (fun e2 => h.t.apart h.n (by decide) (ownB hat e2) e))), (h.g.keep (fun g_ e => heap_putAll _ _ _ _ (fun e2 => h.t.apart h.g (by decide) (ownB hat e2) e))), (h.i.keep (fun g_ e => heap_putAll _ _ _ _ (fun e2 => h.t.apart h.i (by decide) (ownB hat e2) e))), (h.s.keep (fun g_ e => heap_putAll _ _ _ _ (fun e2 => h.t.apart h.s (by decide) (ownB hat e2) e))), ?_⟩
 ·
  exact getD_set_md x.two k d (fun z => FOwn ikEnc 8 30 base (putAll w g (k * 7) (mdEnc d)) (.slice z.ad z.m.lg.length z.cap) z.m.lg) (fun j hj => (h.l j hj).keep (fun g_ e => heap_putAll _ _ _ _ (fun e2 => h.t.apart (h.l j hj) (by decide) (ownB hat e2) e))) (hd.keep (fun g_ e => heap_putAll _ _ _ _ (fun e2 => h.t.apart hd (by decide) (ownB hat e2) e)))
 ·
  exact getD_set_md x.two k d (fun z => ∀ g_, (Value.slice z.ad z.m.lg.length z.cap).ownBlock = some g_ → (Value.slice x.aL x.ln.length x.cL).ownBlock ≠ some g_) (fun j hj => h.ap j hj) hap
theorem BxO.setN {base : Nat} {w w' : World} {x : BxD} (h : BxO base w x) (N : List Wi) (a : Option Addr) (c : Nat) (hN : FOwn wiEnc 12 125 base w' (.slice a N.length c) N) (k : ∀ g, g < w.heap.size → (Value.slice x.aN x.net.length x.cN).ownBlock ≠ some g → w'.heap[g]? = w.heap[g]?) : BxO base w' { x with net := N, aN := a, cN := c } :=
 ⟨h.t.keep (fun g e => k g (h.t.lt g e).2 (fun e2 => h.n.apart h.t (by decide) e2 e)), fun j hj => (h.l j hj).keep (fun g e => k g ((h.l j hj).lt g e).2 (fun e2 => h.n.apart (h.l j hj) (by decide) e2 e)), hN, h.g.keep (fun g e => k g (h.g.lt g e).2 (fun e2 => h.n.apart h.g (by decide) e2 e)), h.i.keep (fun g e => k g (h.i.lt g e).2 (fun e2 => h.n.apart h.i (by decide) e2 e)), h.s.keep (fun g e => k g (h.s.lt g e).2 (fun e2 => h.n.apart h.s (by decide) e2 e)), h.ap⟩
theorem BxO.setL {base : Nat} {w w' : World} {x : BxD} (h : BxO base w x) (N : List Ik) (a : Option Addr) (c : Nat) (hN : FOwn ikEnc 8 30 base w' (.slice a N.length c) N) (ho : (Value.slice a N.length c).ownBlock = (Value.slice x.aL x.ln.length x.cL).ownBlock ∨ ∀ g, (Value.slice a N.length c).ownBlock = some g → w.heap.size ≤ g) (k : ∀ g, g < w.heap.size → (Value.slice x.aL x.ln.length x.cL).ownBlock ≠ some g → w'.heap[g]? = w.heap[g]?) : BxO base w' { x with ln := N, aL := a, cL := c } :=
 ⟨h.t.keep (fun g e => k g (h.t.lt g e).2 (fun e2 => h.i.apart h.t (by decide) e2 e)), fun j hj => (h.l j hj).keep (fun g e => k g ((h.l j hj).lt g e).2 (h.ap j hj g e)), h.n.keep (fun g e => k g (h.n.lt g e).2 (fun e2 => h.i.apart h.n (by decide) e2 e)), h.g.keep (fun g e => k g (h.g.lt g e).2 (fun e2 => h.i.apart h.g (by decide) e2 e)), hN, h.s.keep (fun g e => k g (h.s.lt g e).2 (fun e2 => h.i.apart h.s (by decide) e2 e)), fun j hj g e e2 => ho.elim (fun z => h.ap j hj g e (by rw [← z]; exact e2)) (fun z => by have := z g e2; have := ((h.l j hj).lt g e).2; omega)⟩
structure DeAt (w : World) (q : Nat) (d : De) : Prop where
 c0 : w.cell? ⟨q, 0, none⟩ = some (.int .i64 d.k)
 c1 : w.cell? ⟨q, 1, none⟩ = some (.int .i64 d.a)
 c2 : w.cell? ⟨q, 2, none⟩ = some (.int .i64 d.x.k)
 c3 : w.cell? ⟨q, 3, none⟩ = some (.int .i64 d.x.q)
 c4 : w.cell? ⟨q, 4, none⟩ = some (.int .i64 d.x.r)
 c5 : w.cell? ⟨q, 5, none⟩ = some (.int .i64 d.x.c)
 c6 : w.cell? ⟨q, 6, none⟩ = some (.int .i64 d.x.b)
 c7 : w.cell? ⟨q, 7, none⟩ = some (.int .i64 d.x.p)
 c8 : w.cell? ⟨q, 8, none⟩ = some (.int .i64 d.x.h)
 c9 : w.cell? ⟨q, 9, none⟩ = some (.bool d.x.up)
theorem DeAt.keep {w w' : World} {q : Nat} {d : De} (h : DeAt w q d) (k : w'.heap[q]? = w.heap[q]?) : DeAt w' q d :=
 ⟨(World.cell?_of_block (a := ⟨q, 0, none⟩) k).trans h.c0, (World.cell?_of_block (a := ⟨q, 1, none⟩) k).trans h.c1, (World.cell?_of_block (a := ⟨q, 2, none⟩) k).trans h.c2, (World.cell?_of_block (a := ⟨q, 3, none⟩) k).trans h.c3, (World.cell?_of_block (a := ⟨q, 4, none⟩) k).trans h.c4, (World.cell?_of_block (a := ⟨q, 5, none⟩) k).trans h.c5, (World.cell?_of_block (a := ⟨q, 6, none⟩) k).trans h.c6, (World.cell?_of_block (a := ⟨q, 7, none⟩) k).trans h.c7, (World.cell?_of_block (a := ⟨q, 8, none⟩) k).trans h.c8, (World.cell?_of_block (a := ⟨q, 9, none⟩) k).trans h.c9⟩
theorem DeAt.below {w w' : World} {q n : Nat} {d : De} (h : DeAt w q d) (k : Below n w w') (hq : q < n) : DeAt w' q d := h.keep (k.block q hq)
theorem DeAt.lt {w : World} {q : Nat} {d : De} (h : DeAt w q d) : q < w.heap.size := World.block_lt_of_cell? w _ h.c0
theorem DeAt.new (w : World) (t : TypeId) (d : De) : DeAt (w.alloc (Obj.cells #[.int .i64 d.k, .int .i64 d.a, .int .i64 d.x.k, .int .i64 d.x.q, .int .i64 d.x.r, .int .i64 d.x.c, .int .i64 d.x.b, .int .i64 d.x.p, .int .i64 d.x.h, .bool d.x.up] t)) w.heap.size d := by
 refine ⟨?_, ?_, ?_, ?_, ?_, ?_, ?_, ?_, ?_, ?_⟩ <;> simp [go_sem]
theorem BxO.keepZ {base q : Nat} {w w' : World} {x : BxD} (h : BxO base w x) (hz : ZBx w q) (k : ∀ g, g ≠ q → w'.heap[g]? = w.heap[g]?) : BxO base w' x :=
 ⟨h.t.keep (fun g_ e => k g_ (fun e2 => h.t.notZ hz (by decide) (by rw [← e2]; exact e))), fun j hj => (h.l j hj).keep (fun g_ e => k g_ (fun e2 => (h.l j hj).notZ hz (by decide) (by rw [← e2]; exact e))), h.n.keep (fun g_ e => k g_ (fun e2 => h.n.notZ hz (by decide) (by rw [← e2]; exact e))), h.g.keep (fun g_ e => k g_ (fun e2 => h.g.notZ hz (by decide) (by rw [← e2]; exact e))), h.i.keep (fun g_ e => k g_ (fun e2 => h.i.notZ hz (by decide) (by rw [← e2]; exact e))), h.s.keep (fun g_ e => k g_ (fun e2 => h.s.notZ hz (by decide) (by rw [← e2]; exact e))), h.ap⟩
theorem stepStart (x : BxD) (d : De) (w y : World) (hy : y = ((w.alloc (Obj.cells #[.int .i64 x.id, .int .i64 x.po, .int .i64 x.rg.ep, .int .i64 x.rg.ow, .int .i64 x.rg.pa, .slice x.aT x.two.length x.cT, .slice x.aN x.net.length x.cN, .slice x.aG x.ga.length x.cG, .slice x.aL x.ln.length x.cL, .slice x.aS x.sd.length x.cS] 79)).alloc (Obj.cells #[.int .i64 d.k, .int .i64 d.a, .int .i64 d.x.k, .int .i64 d.x.q, .int .i64 d.x.r, .int .i64 d.x.c, .int .i64 d.x.b, .int .i64 d.x.p, .int .i64 d.x.h, .bool d.x.up] 103)).alloc (Obj.cells #[.int .i64 0, .int .i64 0, .int .i64 0, .int .i64 0, .int .i64 0, .slice none 0 0, .slice none 0 0, .slice none 0 0, .slice none 0 0, .slice none 0 0] 79)) : Below w.heap.size w y ∧ BxAt y w.heap.size x ∧ DeAt y (w.heap.size + 1) d ∧ ZBx y (w.heap.size + 1 + 1) := by
 obtain ⟨w1, h1⟩ := mk_ (w.alloc (Obj.cells #[.int .i64 x.id, .int .i64 x.po, .int .i64 x.rg.ep, .int .i64 x.rg.ow, .int .i64 x.rg.pa, .slice x.aT x.two.length x.cT, .slice x.aN x.net.length x.cN, .slice x.aG x.ga.length x.cG, .slice x.aL x.ln.length x.cL, .slice x.aS x.sd.length x.cS] 79))
 obtain ⟨w2, h2⟩ := mk_ (w1.alloc (Obj.cells #[.int .i64 d.k, .int .i64 d.a, .int .i64 d.x.k, .int .i64 d.x.q, .int .i64 d.x.r, .int .i64 d.x.c, .int .i64 d.x.b, .int .i64 d.x.p, .int .i64 d.x.h, .bool d.x.up] 103))
 rw [← h1, ← h2] at hy
 have s1 : w1.heap.size = w.heap.size + 1 := by rw [h1]; simp
 have s2 : w2.heap.size = w.heap.size + 1 + 1 := by rw [h2]; simp [s1]
 have k1 : Below w.heap.size w w1 := by rw [h1]; exact below_new _
 have k2 : Below w1.heap.size w1 w2 := by rw [h2]; exact below_new _
 have k3 : Below w2.heap.size w2 y := by rw [hy]; exact below_new _
 have A1 : BxAt w1 w.heap.size x := by rw [h1]; exact BxAt.new w _ x
 have D1 : DeAt w2 w1.heap.size d := by rw [h2]; exact DeAt.new w1 _ d
 refine ⟨(k1.trans (k2.mono k1.size)).trans (k3.mono (k1.trans (k2.mono k1.size)).size), (A1.below k2 A1.lt).below k3 (by omega), ?_, ?_⟩
 ·
  rw [← s1]; exact D1.below k3 D1.lt
 ·
  rw [← s2, hy]; exact heap_newF w2 _
theorem ZBx.lt_ {W : World} {q : Nat} (h : ZBx W q) : q < W.heap.size := (Array.getElem?_eq_some_iff.1 h).1
def PZ (w W : World) : Prop := w.heap.size ≤ W.heap.size ∧ ∀ z, ZBx w z → ZBx W z
theorem PZ.of {w W : World} (k : Below w.heap.size w W) : PZ w W := ⟨k.size, fun z h => (k.block z h.lt_).trans h⟩
theorem PZ.later {w W W2 : World} (h : PZ w W) (k : Below W.heap.size W W2) : PZ w W2 := ⟨Nat.le_trans h.1 k.size, fun z hz => (k.block z (h.2 z hz).lt_).trans (h.2 z hz)⟩
theorem PZ.keep {w W W2 : World} {n : Nat} (h : PZ w W) (hn : w.heap.size ≤ n) (k : ∀ g, g ≠ n → W2.heap[g]? = W.heap[g]?) (hs : W.heap.size ≤ W2.heap.size) : PZ w W2 := ⟨Nat.le_trans h.1 hs, fun z hz => (k z (by have := hz.lt_; omega)).trans (h.2 z hz)⟩
theorem PZ.row {w W W2 : World} {X : Type} {enc : X → List Value} {n : Nat} {T : TypeId} {base : Nat} {v : Value} {L : List X} {g : Nat} (h : PZ w W) (f : FOwn enc n T base W v L) (hT : T ≠ 79) (hg : v.ownBlock = some g) (k : ∀ g_, g_ ≠ g → W2.heap[g_]? = W.heap[g_]?) (hs : W.heap.size ≤ W2.heap.size) : PZ w W2 := ⟨Nat.le_trans h.1 hs, fun z hz => (k z (fun e => f.notZ (h.2 z hz) hT (by rw [e]; exact hg))).trans (h.2 z hz)⟩
theorem PZ.grown {w W W2 : World} {X : Type} {enc : X → List Value} {n : Nat} {T : TypeId} {base : Nat} {v : Value} {L : List X} (h : PZ w W) (f : FOwn enc n T base W v L) (hT : T ≠ 79) (gN : W.grownBy W2 v.ownBlock) : PZ w W2 := ⟨Nat.le_trans h.1 gN.size, fun z hz => (gN.block z (h.2 z hz).lt_ (fun e => f.notZ (h.2 z hz) hT e.symm)).trans (h.2 z hz)⟩
theorem PZ.trans {a b c : World} (h : PZ a b) (k : PZ b c) : PZ a c := ⟨Nat.le_trans h.1 k.1, fun z hz => k.2 z (h.2 z hz)⟩
theorem BxB.new (w : World) (t : TypeId) (x : BxD) : BxB (w.alloc (Obj.cells #[.int .i64 x.id, .int .i64 x.po, .int .i64 x.rg.ep, .int .i64 x.rg.ow, .int .i64 x.rg.pa, .slice x.aT x.two.length x.cT, .slice x.aN x.net.length x.cN, .slice x.aG x.ga.length x.cG, .slice x.aL x.ln.length x.cL, .slice x.aS x.sd.length x.cS] t)) w.heap.size x := by
 refine ⟨BxAt.new w _ x, fun i => ?_⟩; simp [go_sem]
theorem ZBx.keep {w w' : World} {q : Nat} (h : ZBx w q) (k : w'.heap[q]? = w.heap[q]?) : ZBx w' q := k.trans h
theorem FView.oneW (w : World) (t : TypeId) (v : Wi) : FView wiEnc (w.alloc (Obj.cells #[.int .i64 v.fr, .bool v.ak, .int .i64 v.li, .int .i64 v.n, .int .i64 v.x.k, .int .i64 v.x.q, .int .i64 v.x.r, .int .i64 v.x.c, .int .i64 v.x.b, .int .i64 v.x.p, .int .i64 v.x.h, .bool v.x.up] t)) (some ⟨w.heap.size, 0, none⟩) [v] := by
 intro _
 refine ⟨w.heap.size, 0, rfl, fun j u hv => ?_⟩
 simp only [fcells, wiEnc, List.append_nil] at hv
 have hj : j < 12 := (List.getElem?_eq_some_iff.1 hv).1
 rcases (by omega : j = 0 ∨ j = 1 ∨ j = 2 ∨ j = 3 ∨ j = 4 ∨ j = 5 ∨ j = 6 ∨ j = 7 ∨ j = 8 ∨ j = 9 ∨ j = 10 ∨ j = 11) with rfl | rfl | rfl | rfl | rfl | rfl | rfl | rfl | rfl | rfl | rfl | rfl <;> (cases hv; simp [go_sem])
theorem WiAtO.keep {w w' : World} {q o : Nat} {x : Wi} (h : WiAtO w q o x) (k : w'.heap[q]? = w.heap[q]?) : WiAtO w' q o x :=
 ⟨(World.cell?_of_block (a := ⟨q, o, none⟩) k).trans h.c0, (World.cell?_of_block (a := ⟨q, o + 1, none⟩) k).trans h.c1, (World.cell?_of_block (a := ⟨q, o + 2, none⟩) k).trans h.c2, (World.cell?_of_block (a := ⟨q, o + 3, none⟩) k).trans h.c3, (World.cell?_of_block (a := ⟨q, o + 4, none⟩) k).trans h.c4, (World.cell?_of_block (a := ⟨q, o + 5, none⟩) k).trans h.c5, (World.cell?_of_block (a := ⟨q, o + 6, none⟩) k).trans h.c6, (World.cell?_of_block (a := ⟨q, o + 7, none⟩) k).trans h.c7, (World.cell?_of_block (a := ⟨q, o + 8, none⟩) k).trans h.c8, (World.cell?_of_block (a := ⟨q, o + 9, none⟩) k).trans h.c9, (World.cell?_of_block (a := ⟨q, o + 10, none⟩) k).trans h.c10, (World.cell?_of_block (a := ⟨q, o + 11, none⟩) k).trans h.c11⟩
theorem WiAtO.lt {w : World} {q o : Nat} {x : Wi} (h : WiAtO w q o x) : q < w.heap.size := World.block_lt_of_cell? w _ h.c0
theorem WiAtO.below {w w' : World} {q o n : Nat} {x : Wi} (h : WiAtO w q o x) (k : Below n w w') (hq : q < n) : WiAtO w' q o x := h.keep (k.block q hq)
theorem WiAtO.new (w : World) (t : TypeId) (v : Wi) : WiAtO (w.alloc (Obj.cells #[.int .i64 v.fr, .bool v.ak, .int .i64 v.li, .int .i64 v.n, .int .i64 v.x.k, .int .i64 v.x.q, .int .i64 v.x.r, .int .i64 v.x.c, .int .i64 v.x.b, .int .i64 v.x.p, .int .i64 v.x.h, .bool v.x.up] t)) w.heap.size 0 v := by
 constructor <;> simp [go_sem]
theorem bxOk_small {x : BxD} (h : bxOk x.p = true) : x.two.length = 2 ∧ (∀ k, k < 2 → miOk (x.two.getD k MiD.nil).m = true) ∧ x.net.length ≤ 20 ∧ x.ga.length ≤ 4 ∧ x.ln.length ≤ 60 ∧ x.sd.length ≤ 40 := by
 obtain ⟨h1, h2, h3, h4, h5, h6, h7, h8, h9, h10⟩ := bxOk_is.1 h
 have e : x.two.length = 2 := by have h3 : (x.two.map MiD.m).length = 2 := h3; simpa using h3
 refine ⟨e, ?_, h7, ?_, ?_, h10⟩
 ·
  intro k hk
  rcases (by omega : k = 0 ∨ k = 1) with rfl | rfl
  ·
   rw [mOf_p] at h4; exact h4
  ·
   rw [mOf_p] at h5; exact h5
 ·
  unfold nOk at h1
  simp only [Bool.and_eq_true, decide_eq_true_eq] at h1
  have h8 : (x.ga.length : Int) = x.po := h8
  have := h1.2.2
  have h9 : x.p.po = x.po := rfl
  omega
 ·
  unfold insB at h9
  simp only [Bool.and_eq_true, decide_eq_true_eq] at h9
  exact h9.2
theorem miOk_lg {m : Mi} (h : miOk m = true) : m.lg.length ≤ 60 := by
 obtain ⟨_, _, _, h4, _⟩ := miOk_iff.1 h
 unfold insB at h4
 simp only [Bool.and_eq_true, decide_eq_true_eq] at h4
 exact h4.2
theorem BxO.okV {base : Nat} {w : World} {x : BxD} (h : BxO base w x) (hb : bxOk x.p = true) : BxV w x := by
 obtain ⟨a, b, c, d, e, f⟩ := bxOk_small hb
 exact h.view (by omega) (fun i hi => by have := miOk_lg (b i (by omega)); omega) (by omega) (by omega) (by omega) (by omega)
structure BxS (base q z : Nat) (w W : World) (x : BxD) : Prop where
 O : BxO base W x
 A : BxB W q x
 NA : BxNe q x
 Z : ZBx W z
 NZ : BxNe z x
 B : Below base w W
 b0 : base ≤ q
 bz : base ≤ z
 ne : z ≠ q
theorem BxS.sz {base q z : Nat} {w W : World} {x : BxD} (h : BxS base q z w W x) : base ≤ W.heap.size := Nat.le_trans h.b0 (Nat.le_of_lt h.A.lt)
theorem BxS.later {base q z : Nat} {w W W' : World} {x : BxD} (h : BxS base q z w W x) (k : Below W.heap.size W W') : BxS base q z w W' x :=
 ⟨h.O.later k, h.A.below k h.A.lt, h.NA, (k.block _ (zb_lt h.Z)).trans h.Z, h.NZ, h.B.trans (k.mono h.sz), h.b0, h.bz, h.ne⟩
theorem BxS.keepN {base q z n : Nat} {w W W' : World} {x : BxD} (h : BxS base q z w W x) (hn : BxNe n x) (h1 : n ≠ q) (h2 : n ≠ z) (k : ∀ g, g ≠ n → W'.heap[g]? = W.heap[g]?) (hB : Below base w W') : BxS base q z w W' x :=
 ⟨h.O.keepQ hn k, h.A.keep (k _ (fun e => h1 e.symm)), h.NA, h.Z.keep (k _ (fun e => h2 e.symm)), h.NZ, hB, h.b0, h.bz, h.ne⟩
theorem BxS.ret {base q z : Nat} {w W : World} {x : BxD} (h : BxS base q z w W x) : BxO base ((((((((((W.setCell ⟨z, 0, none⟩ (.int .i64 x.id)).setCell ⟨z, 1, none⟩ (.int .i64 x.po)).setCell ⟨z, 2, none⟩ (.int .i64 x.rg.ep)).setCell ⟨z, 3, none⟩ (.int .i64 x.rg.ow)).setCell ⟨z, 4, none⟩ (.int .i64 x.rg.pa)).setCell ⟨z, 5, none⟩ (.slice x.aT x.two.length x.cT)).setCell ⟨z, 6, none⟩ (.slice x.aN x.net.length x.cN)).setCell ⟨z, 7, none⟩ (.slice x.aG x.ga.length x.cG)).setCell ⟨z, 8, none⟩ (.slice x.aL x.ln.length x.cL)).setCell ⟨z, 9, none⟩ (.slice x.aS x.sd.length x.cS)) x ∧ Below base w ((((((((((W.setCell ⟨z, 0, none⟩ (.int .i64 x.id)).setCell ⟨z, 1, none⟩ (.int .i64 x.po)).setCell ⟨z, 2, none⟩ (.int .i64 x.rg.ep)).setCell ⟨z, 3, none⟩ (.int .i64 x.rg.ow)).setCell ⟨z, 4, none⟩ (.int .i64 x.rg.pa)).setCell ⟨z, 5, none⟩ (.slice x.aT x.two.length x.cT)).setCell ⟨z, 6, none⟩ (.slice x.aN x.net.length x.cN)).setCell ⟨z, 7, none⟩ (.slice x.aG x.ga.length x.cG)).setCell ⟨z, 8, none⟩ (.slice x.aL x.ln.length x.cL)).setCell ⟨z, 9, none⟩ (.slice x.aS x.sd.length x.cS)) :=
 ⟨h.O.keepQ h.NZ (fun g hg => heap_put10 W z g x hg), below_put10 (q := z) x h.B h.bz⟩
theorem BxS.pz {base q z : Nat} {w W : World} {x : BxD} (h : BxS base q z w W x) (P : PZ w W) (hz : w.heap.size ≤ z) : PZ w ((((((((((W.setCell ⟨z, 0, none⟩ (.int .i64 x.id)).setCell ⟨z, 1, none⟩ (.int .i64 x.po)).setCell ⟨z, 2, none⟩ (.int .i64 x.rg.ep)).setCell ⟨z, 3, none⟩ (.int .i64 x.rg.ow)).setCell ⟨z, 4, none⟩ (.int .i64 x.rg.pa)).setCell ⟨z, 5, none⟩ (.slice x.aT x.two.length x.cT)).setCell ⟨z, 6, none⟩ (.slice x.aN x.net.length x.cN)).setCell ⟨z, 7, none⟩ (.slice x.aG x.ga.length x.cG)).setCell ⟨z, 8, none⟩ (.slice x.aL x.ln.length x.cL)).setCell ⟨z, 9, none⟩ (.slice x.aS x.sd.length x.cS)) :=
 P.keep hz (fun g hg => heap_put10 W z g x hg) (by simp)
theorem FOwn.blk {X : Type} {enc : X → List Value} {n : Nat} {T : TypeId} {base : Nat} {w : World} {ad : Option Addr} {cap : Nat} {L : List X} (h : FOwn enc n T base w (.slice ad L.length cap) L) (hp : 0 < L.length) : ∃ g, ad = some ⟨g, 0, none⟩ ∧ base ≤ g ∧ g < w.heap.size := by
 rcases h.2 with ⟨e, h0⟩ | ⟨g, c, cur, e, _⟩
 ·
  simp only [Value.slice.injEq] at e
  omega
 ·
  simp only [Value.slice.injEq] at e
  obtain ⟨e1, _, _⟩ := e
  subst e1
  exact ⟨g, rfl, h.lt g rfl⟩
theorem BxS.setT {base q z : Nat} {w W : World} {x : BxD} (h : BxS base q z w W x) {g k : Nat} (hat : x.aT = some ⟨g, 0, none⟩) (hk : k < x.two.length) (d : MiD) (hd : FOwn ikEnc 8 30 base W (.slice d.ad d.m.lg.length d.cap) d.m.lg) (hap : ∀ g_, (Value.slice d.ad d.m.lg.length d.cap).ownBlock = some g_ → (Value.slice x.aL x.ln.length x.cL).ownBlock ≠ some g_) (hnq : ∀ g_, (Value.slice d.ad d.m.lg.length d.cap).ownBlock = some g_ → g_ ≠ q ∧ g_ ≠ z) :
  BxS base q z w (putAll W g (k * 7) (mdEnc d)) (x.setT k d) := by
 have kp : ∀ k_, k_ ≠ g → (putAll W g (k * 7) (mdEnc d)).heap[k_]? = W.heap[k_]? := fun k_ hk_ => heap_putAll (mdEnc d) W (k * 7) k_ hk_
 have gq : g ≠ q := h.NA.t g (ownB hat rfl)
 have gz : g ≠ z := h.NZ.t g (ownB hat rfl)
 have A := h.A.keep (kp _ (fun e => gq e.symm))
 have hl : (x.setT k d).two.length = x.two.length := by unfold BxD.setT; simp
 have NE : ∀ {q' : Nat}, BxNe q' x → (∀ g_, (Value.slice d.ad d.m.lg.length d.cap).ownBlock = some g_ → g_ ≠ q') → BxNe q' (x.setT k d) := fun hN hd' => ⟨by rw [hl]; exact hN.t, hN.n, hN.g, hN.i, hN.s, getD_set_md x.two k d (fun y => ∀ b, (Value.slice y.ad y.m.lg.length y.cap).ownBlock = some b → b ≠ _) hN.l hd'⟩
 refine ⟨h.O.setT hat hk d hd hap, ⟨⟨A.at_.c0, A.at_.c1, A.at_.c2, A.at_.c3, A.at_.c4, by rw [hl]; exact A.at_.c5, A.at_.c6, A.at_.c7, A.at_.c8, A.at_.c9⟩, A.fr⟩, NE h.NA (fun g_ e => (hnq g_ e).1), h.Z.keep (kp _ (fun e => gz e.symm)), NE h.NZ (fun g_ e => (hnq g_ e).2), ?_, h.b0, h.bz, h.ne⟩
 exact below_putAll (h.O.t.lt g (ownB hat rfl)).1 (mdEnc d) (k * 7) h.B
theorem BxS.putN {base q z : Nat} {w W W2 : World} {x : BxD} (h : BxS base q z w W x) (N : List Wi) (a : Option Addr) (c : Nat) (oN : FOwn wiEnc 12 125 base W2 (.slice a N.length c) N) (hk : ∀ g, g < W.heap.size → (Value.slice x.aN x.net.length x.cN).ownBlock ≠ some g → W2.heap[g]? = W.heap[g]?) (hB : Below base w W2) (hq : ∀ b, (Value.slice a N.length c).ownBlock = some b → b ≠ q ∧ b ≠ z) :
  BxB W2 q x ∧ BxS base q z w (W2.setCell ⟨q, 6, none⟩ (.slice a N.length c)) { x with net := N, aN := a, cN := c } := by
 have A := h.A.keep (hk _ h.A.lt (fun e => h.NA.n _ e rfl))
 have Z := h.Z.keep (hk _ (zb_lt h.Z) (fun e => h.NZ.n _ e rfl))
 have kp : ∀ g, g ≠ q → (W2.setCell ⟨q, 6, none⟩ (.slice a N.length c)).heap[g]? = W2.heap[g]? := fun g hg => Below.heap_setCell _ _ _ _ hg
 have NE3 : BxNe q { x with net := N, aN := a, cN := c } := ⟨h.NA.t, fun b e => (hq b e).1, h.NA.g, h.NA.i, h.NA.s, h.NA.l⟩
 have O := (h.O.setN N a c oN hk).keepQ NE3 kp
 exact ⟨A, O, A.sN N a N.length c rfl, NE3, Z.keep (kp _ h.ne), ⟨h.NZ.t, fun b e => (hq b e).2, h.NZ.g, h.NZ.i, h.NZ.s, h.NZ.l⟩, hB.setCell (p := ⟨q, 6, none⟩) h.b0 _, h.b0, h.bz, h.ne⟩
theorem BxS.addN {base q z : Nat} {w W W2 : World} {x : BxD} (h : BxS base q z w W x) (N : List Wi) (v : Value) (oN : FOwn wiEnc 12 125 base W2 v N) (gN : W.grownBy W2 (Value.slice x.aN x.net.length x.cN).ownBlock) (hob : v.ownBlock = (Value.slice x.aN x.net.length x.cN).ownBlock ∨ v.ownBlock = some W.heap.size) :
  ∃ a c, v = .slice a N.length c ∧ BxB W2 q x ∧ BxS base q z w (W2.setCell ⟨q, 6, none⟩ (.slice a N.length c)) { x with net := N, aN := a, cN := c } ∧ ∀ n, n < W.heap.size → BxNe n x → W2.heap[n]? = W.heap[n]? ∧ BxNe n { x with net := N, aN := a, cN := c } := by
 obtain ⟨a, c, rfl⟩ := oN.open_
 have hk : ∀ g, g < W.heap.size → (Value.slice x.aN x.net.length x.cN).ownBlock ≠ some g → W2.heap[g]? = W.heap[g]? := fun g h1 h2 => gN.block g h1 (fun e => h2 e.symm)
 have hq : ∀ n, n < W.heap.size → BxNe n x → ∀ b, (Value.slice a N.length c).ownBlock = some b → b ≠ n := fun n hn hN b e => hob.elim (fun e2 => by rw [e2] at e; exact hN.n b e) (fun e2 => by rw [e2] at e; have := Option.some.inj e; omega)
 obtain ⟨A, S⟩ := h.putN N a c oN hk (h.B.grown gN h.sz (fun k e => (h.O.n.lt k e).1)) (fun b e => ⟨hq q h.A.lt h.NA b e, hq z (zb_lt h.Z) h.NZ b e⟩)
 exact ⟨a, c, rfl, A, S, fun n hn hN => ⟨hk n hn (fun e => hN.n _ e rfl), hN.t, hq n hn hN, hN.g, hN.i, hN.s, hN.l⟩⟩
theorem BxS.setR {base q z : Nat} {w W : World} {x : BxD} (h : BxS base q z w W x) (r : Rg) : BxS base q z w (((W.setCell ⟨q, 2, none⟩ (.int .i64 r.ep)).setCell ⟨q, 3, none⟩ (.int .i64 r.ow)).setCell ⟨q, 4, none⟩ (.int .i64 r.pa)) { x with rg := r } := by
 have kp : ∀ g, g ≠ q → (((W.setCell ⟨q, 2, none⟩ (.int .i64 r.ep)).setCell ⟨q, 3, none⟩ (.int .i64 r.ow)).setCell ⟨q, 4, none⟩ (.int .i64 r.pa)).heap[g]? = W.heap[g]? := fun g hg => by rw [Below.heap_setCell _ _ _ _ hg, Below.heap_setCell _ _ _ _ hg, Below.heap_setCell _ _ _ _ hg]
 have O := h.O.keepQ h.NA kp
 exact ⟨⟨O.t, O.l, O.n, O.g, O.i, O.s, O.ap⟩, h.A.sR r, ⟨h.NA.t, h.NA.n, h.NA.g, h.NA.i, h.NA.s, h.NA.l⟩, h.Z.keep (kp _ h.ne), ⟨h.NZ.t, h.NZ.n, h.NZ.g, h.NZ.i, h.NZ.s, h.NZ.l⟩, ((h.B.setCell (p := ⟨q, 2, none⟩) h.b0 _).setCell (p := ⟨q, 3, none⟩) h.b0 _).setCell (p := ⟨q, 4, none⟩) h.b0 _, h.b0, h.bz, h.ne⟩
theorem stepStart1 {base : Nat} (x : BxD) (w y : World) (hO : BxO base w x) (hbw : base ≤ w.heap.size) (hy : y = (w.alloc (Obj.cells #[.int .i64 x.id, .int .i64 x.po, .int .i64 x.rg.ep, .int .i64 x.rg.ow, .int .i64 x.rg.pa, .slice x.aT x.two.length x.cT, .slice x.aN x.net.length x.cN, .slice x.aG x.ga.length x.cG, .slice x.aL x.ln.length x.cL, .slice x.aS x.sd.length x.cS] 79)).alloc (Obj.cells #[.int .i64 0, .int .i64 0, .int .i64 0, .int .i64 0, .int .i64 0, .slice none 0 0, .slice none 0 0, .slice none 0 0, .slice none 0 0, .slice none 0 0] 79)) : BxS base w.heap.size (w.heap.size + 1) w y x ∧ Below w.heap.size w y := by
 obtain ⟨w1, h1⟩ := mk_ (w.alloc (Obj.cells #[.int .i64 x.id, .int .i64 x.po, .int .i64 x.rg.ep, .int .i64 x.rg.ow, .int .i64 x.rg.pa, .slice x.aT x.two.length x.cT, .slice x.aN x.net.length x.cN, .slice x.aG x.ga.length x.cG, .slice x.aL x.ln.length x.cL, .slice x.aS x.sd.length x.cS] 79))
 rw [← h1] at hy
 have s1 : w1.heap.size = w.heap.size + 1 := by rw [h1]; simp
 have k1 : Below w.heap.size w w1 := by rw [h1]; exact below_new _
 have k3 : Below w1.heap.size w1 y := by rw [hy]; exact below_new _
 have A1 : BxB w1 w.heap.size x := by rw [h1]; exact BxB.new w _ x
 have kk := k1.trans (k3.mono k1.size)
 refine ⟨⟨hO.later kk, A1.below k3 A1.lt, hO.ne (Nat.le_refl _), ?_, hO.ne (Nat.le_succ _), kk.mono hbw, hbw, by omega, by omega⟩, kk⟩
 rw [← s1, hy]; exact heap_newF w1 _
theorem stepStartD {base : Nat} (x : BxD) (d : De) (w y : World) (hO : BxO base w x) (hbw : base ≤ w.heap.size) (hy : y = ((w.alloc (Obj.cells #[.int .i64 x.id, .int .i64 x.po, .int .i64 x.rg.ep, .int .i64 x.rg.ow, .int .i64 x.rg.pa, .slice x.aT x.two.length x.cT, .slice x.aN x.net.length x.cN, .slice x.aG x.ga.length x.cG, .slice x.aL x.ln.length x.cL, .slice x.aS x.sd.length x.cS] 79)).alloc (Obj.cells #[.int .i64 d.k, .int .i64 d.a, .int .i64 d.x.k, .int .i64 d.x.q, .int .i64 d.x.r, .int .i64 d.x.c, .int .i64 d.x.b, .int .i64 d.x.p, .int .i64 d.x.h, .bool d.x.up] 103)).alloc (Obj.cells #[.int .i64 0, .int .i64 0, .int .i64 0, .int .i64 0, .int .i64 0, .slice none 0 0, .slice none 0 0, .slice none 0 0, .slice none 0 0, .slice none 0 0] 79)) : BxS base w.heap.size (w.heap.size + 1 + 1) w y x ∧ DeAt y (w.heap.size + 1) d ∧ Below w.heap.size w y ∧ BxNe (w.heap.size + 1) x := by
 obtain ⟨w1, h1⟩ := mk_ (w.alloc (Obj.cells #[.int .i64 x.id, .int .i64 x.po, .int .i64 x.rg.ep, .int .i64 x.rg.ow, .int .i64 x.rg.pa, .slice x.aT x.two.length x.cT, .slice x.aN x.net.length x.cN, .slice x.aG x.ga.length x.cG, .slice x.aL x.ln.length x.cL, .slice x.aS x.sd.length x.cS] 79))
 obtain ⟨w2, h2⟩ := mk_ (w1.alloc (Obj.cells #[.int .i64 d.k, .int .i64 d.a, .int .i64 d.x.k, .int .i64 d.x.q, .int .i64 d.x.r, .int .i64 d.x.c, .int .i64 d.x.b, .int .i64 d.x.p, .int .i64 d.x.h, .bool d.x.up] 103))
 rw [← h1, ← h2] at hy
 have s1 : w1.heap.size = w.heap.size + 1 := by rw [h1]; simp
 have s2 : w2.heap.size = w.heap.size + 1 + 1 := by rw [h2]; simp [s1]
 have k1 : Below w.heap.size w w1 := by rw [h1]; exact below_new _
 have k2 : Below w1.heap.size w1 w2 := by rw [h2]; exact below_new _
 have k3 : Below w2.heap.size w2 y := by rw [hy]; exact below_new _
 have A1 : BxB w1 w.heap.size x := by rw [h1]; exact BxB.new w _ x
 have D1 : DeAt w2 w1.heap.size d := by rw [h2]; exact DeAt.new w1 _ d
 have kk := (k1.trans (k2.mono k1.size)).trans (k3.mono (k1.trans (k2.mono k1.size)).size)
 refine ⟨⟨hO.later kk, (A1.below k2 A1.lt).below k3 (by omega), hO.ne (Nat.le_refl _), ?_, hO.ne (by omega), kk.mono hbw, hbw, by omega, by omega⟩, ?_, kk, hO.ne (Nat.le_succ _)⟩
 ·
  rw [← s2, hy]; exact heap_newF w2 _
 ·
  rw [← s1]; exact D1.below k3 D1.lt
theorem stepStartW {base : Nat} (x : BxD) (v : Wi) (w y : World) (hO : BxO base w x) (hbw : base ≤ w.heap.size) (hy : y = ((w.alloc (Obj.cells #[.int .i64 x.id, .int .i64 x.po, .int .i64 x.rg.ep, .int .i64 x.rg.ow, .int .i64 x.rg.pa, .slice x.aT x.two.length x.cT, .slice x.aN x.net.length x.cN, .slice x.aG x.ga.length x.cG, .slice x.aL x.ln.length x.cL, .slice x.aS x.sd.length x.cS] 79)).alloc (Obj.cells #[.int .i64 v.fr, .bool v.ak, .int .i64 v.li, .int .i64 v.n, .int .i64 v.x.k, .int .i64 v.x.q, .int .i64 v.x.r, .int .i64 v.x.c, .int .i64 v.x.b, .int .i64 v.x.p, .int .i64 v.x.h, .bool v.x.up] 125)).alloc (Obj.cells #[.int .i64 0, .int .i64 0, .int .i64 0, .int .i64 0, .int .i64 0, .slice none 0 0, .slice none 0 0, .slice none 0 0, .slice none 0 0, .slice none 0 0] 79)) : BxS base w.heap.size (w.heap.size + 1 + 1) w y x ∧ WiAtO y (w.heap.size + 1) 0 v ∧ Below w.heap.size w y ∧ BxNe (w.heap.size + 1) x := by
 obtain ⟨w1, h1⟩ := mk_ (w.alloc (Obj.cells #[.int .i64 x.id, .int .i64 x.po, .int .i64 x.rg.ep, .int .i64 x.rg.ow, .int .i64 x.rg.pa, .slice x.aT x.two.length x.cT, .slice x.aN x.net.length x.cN, .slice x.aG x.ga.length x.cG, .slice x.aL x.ln.length x.cL, .slice x.aS x.sd.length x.cS] 79))
 obtain ⟨w2, h2⟩ := mk_ (w1.alloc (Obj.cells #[.int .i64 v.fr, .bool v.ak, .int .i64 v.li, .int .i64 v.n, .int .i64 v.x.k, .int .i64 v.x.q, .int .i64 v.x.r, .int .i64 v.x.c, .int .i64 v.x.b, .int .i64 v.x.p, .int .i64 v.x.h, .bool v.x.up] 125))
 rw [← h1, ← h2] at hy
 have s1 : w1.heap.size = w.heap.size + 1 := by rw [h1]; simp
 have s2 : w2.heap.size = w.heap.size + 1 + 1 := by rw [h2]; simp [s1]
 have k1 : Below w.heap.size w w1 := by rw [h1]; exact below_new _
 have k2 : Below w1.heap.size w1 w2 := by rw [h2]; exact below_new _
 have k3 : Below w2.heap.size w2 y := by rw [hy]; exact below_new _
 have A1 : BxB w1 w.heap.size x := by rw [h1]; exact BxB.new w _ x
 have D1 : WiAtO w2 w1.heap.size 0 v := by rw [h2]; exact WiAtO.new w1 _ v
 have kk := (k1.trans (k2.mono k1.size)).trans (k3.mono (k1.trans (k2.mono k1.size)).size)
 refine ⟨⟨hO.later kk, (A1.below k2 A1.lt).below k3 (by omega), hO.ne (Nat.le_refl _), ?_, hO.ne (by omega), kk.mono hbw, hbw, by omega, by omega⟩, ?_, kk, hO.ne (Nat.le_succ _)⟩
 ·
  rw [← s2, hy]; exact heap_newF w2 _
 ·
  rw [← s1]; exact D1.below k3 D1.lt
theorem noteR_lgl {m : Mi} {x : Ik} {n : Nat} (h : m.lg.length ≤ n) : (noteR m x).lg.length ≤ n + 1 := by
 unfold noteR
 split
 ·
  show (m.lg ++ [x]).length ≤ n + 1
  simp only [List.length_append, List.length_cons, List.length_nil]; omega
 ·
  omega
def SmN (n : Nat) (x : Bx) : Prop := x.two.length = 2 ∧ (∀ k, k < 2 → (x.two.getD k Mi.nil).lg.length ≤ n) ∧ x.net.length ≤ n ∧ x.ga.length ≤ n ∧ x.ln.length ≤ n ∧ x.sd.length ≤ n
theorem SmN.setM {n : Nat} {x : Bx} (h : SmN n x) (s : Int) {m : Mi} (hm : m.lg.length ≤ n) : SmN n (setM x s m) := by
 obtain ⟨h1, h2, h3, h4, h5, h6⟩ := h
 refine ⟨by show (x.two.set s.toNat m).length = 2; rw [List.length_set]; exact h1, fun k hk => ?_, h3, h4, h5, h6⟩
 show ((x.two.set s.toNat m).getD k Mi.nil).lg.length ≤ n
 rw [List.getD_eq_getElem?_getD, List.getElem?_set]
 by_cases e : s.toNat = k
 ·
  rw [if_pos e, if_pos (by omega)]
  exact hm
 ·
  rw [if_neg e]
  have := h2 k hk
  rwa [List.getD_eq_getElem?_getD] at this
theorem SmN.net {n : Nat} {x : Bx} (h : SmN n x) {N : List Wi} (hN : N.length ≤ n) : SmN n (setN x N) := ⟨h.1, h.2.1, hN, h.2.2.2.1, h.2.2.2.2.1, h.2.2.2.2.2⟩
theorem SmN.reg {n : Nat} {x : Bx} (h : SmN n x) (r : Rg) : SmN n (setR x r) := h
theorem SmN.up {n k : Nat} {x : Bx} (h : SmN n x) (hk : n ≤ k) : SmN k x := ⟨h.1, fun j hj => Nat.le_trans (h.2.1 j hj) hk, by have := h.2.2.1; omega, by have := h.2.2.2.1; omega, by have := h.2.2.2.2.1; omega, by have := h.2.2.2.2.2; omega⟩
theorem SmN.lg_ {n : Nat} {x : Bx} (h : SmN n x) (s : Int) : (mOf x s).lg.length ≤ n := by
 by_cases k : s.toNat < 2
 ·
  exact h.2.1 s.toNat k
 ·
  unfold mOf
  have hn : x.two.length ≤ s.toNat := by have := h.1; omega
  rw [List.getD_eq_getElem?_getD, List.getElem?_eq_none hn]
  exact Nat.zero_le _
theorem SmN.of {x : Bx} (h : bxOk x = true) : SmN 60 x := by
 obtain ⟨_, _, h3, h4, h5, _, h7, h8, h9, h10⟩ := bxOk_is.1 h
 obtain ⟨hn, _⟩ := bxOk_is.1 h
 refine ⟨h3, fun k hk => ?_, by omega, ?_, ?_, by omega⟩
 ·
  rcases (by omega : k = 0 ∨ k = 1) with rfl | rfl
  ·
   exact miOk_lg h4
  ·
   exact miOk_lg h5
 ·
  unfold nOk at hn
  simp only [Bool.and_eq_true, decide_eq_true_eq] at hn
  omega
 ·
  unfold insB at h9
  simp only [Bool.and_eq_true, decide_eq_true_eq] at h9
  exact h9.2
theorem SmN.acc {n : Nat} {x : Bx} (h : SmN n x) (hn : 40 ≤ n) (s : Int) (O : List Ou) : SmN n (accX x s O) := by
 unfold accX
 split
 ·
  exact ⟨h.1, h.2.1, h.2.2.1, by show (O.foldl gateX x.ga).length ≤ n; rw [gateX_len]; exact h.2.2.2.1, h.2.2.2.2.1, by have := lastS_len (x.sd ++ O); show (lastS (x.sd ++ O)).length ≤ n; omega⟩
 ·
  exact h
theorem SmN.line_ {n : Nat} {x : Bx} (h : SmN n x) (k : Int) (y : Ik) : SmN (n + 1) (lineX x k y) := by
 unfold lineX
 split
 ·
  refine ⟨h.1, fun j hj => by have := h.2.1 j hj; show (x.two.getD j Mi.nil).lg.length ≤ n + 1; omega, by have := h.2.2.1; show x.net.length ≤ n + 1; omega, by have := h.2.2.2.1; show x.ga.length ≤ n + 1; omega, ?_, by have := h.2.2.2.2.2; show x.sd.length ≤ n + 1; omega⟩
  show (x.ln ++ [y]).length ≤ n + 1
  have := h.2.2.2.2.1
  simp only [List.length_append, List.length_cons, List.length_nil]
  omega
 ·
  exact h.up (by omega)
theorem SmN.take_ {n : Nat} {x : Bx} (h : SmN n x) (d : De) : SmN n (setN x (x.net.take d.a.toNat ++ x.net.drop (d.a.toNat + 1))) := h.net (by
 have := h.2.2.1
 simp only [List.length_append, List.length_take, List.length_drop]
 omega)
theorem SmN.hear_ {n : Nat} {x : Bx} (h : SmN n x) (w : Wi) : SmN (n + 1) (hearN x w) := by
 unfold hearN
 split
 ·
  exact (h.up (by omega)).setM _ (noteR_lgl (h.lg_ _))
 ·
  exact h.up (by omega)
theorem SmN.heard {n : Nat} {x : Bx} (h : SmN n x) (w : Wi) : SmN (n + 1) (heardX x w) := by
 have hN := h.hear_ w
 have hl := hN.2.2.1
 have hu := h.up (show n ≤ n + 1 by omega)
 unfold heardX
 split
 ·
  exact hu
 ·
  split
  ·
   split
   ·
    exact hu.setM _ (hu.lg_ _)
   ·
    exact hu
  ·
   split
   ·
    exact hu
   ·
    split
    ·
     refine hN.net ?_
     have := h.2.2.1
     simp only [List.length_append, List.length_cons, List.length_nil]
     omega
    ·
     exact hN
theorem SmN.one {x : Bx} (h : SmN 60 x) (d : De) : SmN 62 (oneX x d).1 := by
 have hu := h.up (show 60 ≤ 62 by omega)
 have hn := h.2.2.1
 unfold oneX
 split
 ·
  unfold inX
  split
  ·
   exact hu
  ·
   split
   ·
    exact hu.setM _ (Nat.le_trans (noteR_lgl (h.lg_ _)) (by omega))
   ·
    exact hu
 split
 ·
  unfold sayX
  split
  ·
   exact hu
  ·
   exact (((h.acc (by omega) _ _).line_ _ _).up (by omega)).setM _ (hu.lg_ _)
 split
 ·
  unfold netX
  split
  ·
   exact hu
  ·
   split
   ·
    split
    ·
     exact hu
    ·
     refine hu.net ?_
     simp only [List.length_append, List.length_cons, List.length_nil]
     omega
   ·
    split
    ·
     exact ((h.take_ d).heard _).up (by omega)
    ·
     exact hu.take_ d
 split
 ·
  exact hu
 split
 ·
  unfold shipX
  split
  ·
   exact hu
  ·
   split
   ·
    exact hu
   ·
    refine hu.net ?_
    simp only [List.length_append, List.length_cons, List.length_nil]
    omega
 split
 ·
  unfold fallX
  split
  ·
   exact hu.setM _ (Nat.zero_le _)
  ·
   split
   ·
    exact hu.setM _ (Nat.zero_le _)
   ·
    exact hu
 ·
  unfold regX
  split
  ·
   split
   ·
    exact hu
   ·
    split
    ·
     exact hu
    ·
     refine (hu.reg _).setM _ ?_
     exact hu.lg_ d.a
  ·
   split <;> split <;> first | exact hu.reg _ | exact hu
theorem BxO.smV {base n : Nat} {w : World} {x : BxD} (h : BxO base w x) (hs : SmN n x.p) (hn : n ≤ 1000) : BxV w x := by
 obtain ⟨h1, h2, h3, h4, h5, h6⟩ := hs
 have e2 : x.two.length = 2 := by have h1 : (x.two.map MiD.m).length = 2 := h1; simpa using h1
 refine h.view (by omega) (fun i hi => ?_) (by have h3 : x.net.length ≤ n := h3; omega) (by have h4 : x.ga.length ≤ n := h4; omega) (by have h5 : x.ln.length ≤ n := h5; omega) (by have h6 : x.sd.length ≤ n := h6; omega)
 have := h2 i (by omega)
 have e := mOf_p x (i : Int)
 unfold mOf at e
 simp only [Int.toNat_natCast] at e
 rw [e] at this
 omega
def deEnc (d : De) : List Value := [.int .i64 d.k, .int .i64 d.a, .int .i64 d.x.k, .int .i64 d.x.q, .int .i64 d.x.r, .int .i64 d.x.c, .int .i64 d.x.b, .int .i64 d.x.p, .int .i64 d.x.h, .bool d.x.up]
theorem deEnc_len (d : De) : (deEnc d).length = 10 := rfl
theorem deEnc_ones (L : List De) : ∀ u ∈ fcells deEnc L, u.oneCell' = true := by
 induction L with
 | nil => intro u h; cases h
 | cons x L ih =>
  intro u h
  simp only [fcells, deEnc, List.mem_append, List.mem_cons, List.not_mem_nil, or_false] at h
  rcases h with (rfl | rfl | rfl | rfl | rfl | rfl | rfl | rfl | rfl | rfl) | h
  ·
   rfl
  ·
   rfl
  ·
   rfl
  ·
   rfl
  ·
   rfl
  ·
   rfl
  ·
   rfl
  ·
   rfl
  ·
   rfl
  ·
   rfl
  ·
   exact ih u h
theorem deInfo : (Try.prog.info? 103).map (fun i => (i.zero, i.size, i.bytes)) = some (some (.agg #[.int .i64 0, .int .i64 0, .int .i64 0, .int .i64 0, .int .i64 0, .int .i64 0, .int .i64 0, .int .i64 0, .int .i64 0, .bool false]), 10, 80) := by kernel_rfl
theorem FView.oneDe (w : World) (t : TypeId) (d : De) : FView deEnc (w.alloc (Obj.cells #[.int .i64 d.k, .int .i64 d.a, .int .i64 d.x.k, .int .i64 d.x.q, .int .i64 d.x.r, .int .i64 d.x.c, .int .i64 d.x.b, .int .i64 d.x.p, .int .i64 d.x.h, .bool d.x.up] t)) (some ⟨w.heap.size, 0, none⟩) [d] := by
 intro _
 refine ⟨w.heap.size, 0, rfl, fun j u hv => ?_⟩
 simp only [fcells, deEnc, List.append_nil] at hv
 have hj : j < 10 := (List.getElem?_eq_some_iff.1 hv).1
 rcases (by omega : j = 0 ∨ j = 1 ∨ j = 2 ∨ j = 3 ∨ j = 4 ∨ j = 5 ∨ j = 6 ∨ j = 7 ∨ j = 8 ∨ j = 9) with rfl | rfl | rfl | rfl | rfl | rfl | rfl | rfl | rfl | rfl <;> (cases hv; simp [go_sem])
theorem BxO.rowT {base : Nat} {w w' : World} {x : BxD} (h : BxO base w x) {X : Type} {enc : X → List Value} {n : Nat} {T : TypeId} {b : Nat} {v : Value} {L : List X} (f : FOwn enc n T b w v L) (t1 : T ≠ 26) (t2 : T ≠ 30) (t3 : T ≠ 125) (t4 : T ≠ 4) (t5 : T ≠ 135) (g : w.grownBy w' v.ownBlock) : BxO base w' x :=
 ⟨h.t.keep (fun g_ e => g.block g_ (h.t.lt g_ e).2 (fun e2 => f.apart h.t t1 e2.symm e)), fun i hi => (h.l i hi).keep (fun g_ e => g.block g_ ((h.l i hi).lt g_ e).2 (fun e2 => f.apart (h.l i hi) t2 e2.symm e)), h.n.keep (fun g_ e => g.block g_ (h.n.lt g_ e).2 (fun e2 => f.apart h.n t3 e2.symm e)), h.g.keep (fun g_ e => g.block g_ (h.g.lt g_ e).2 (fun e2 => f.apart h.g t4 e2.symm e)), h.i.keep (fun g_ e => g.block g_ (h.i.lt g_ e).2 (fun e2 => f.apart h.i t2 e2.symm e)), h.s.keep (fun g_ e => g.block g_ (h.s.lt g_ e).2 (fun e2 => f.apart h.s t5 e2.symm e)), h.ap⟩
theorem BxO.cur {base cb : Nat} {w w' : World} {x : BxD} (h : BxO base w x) (g : w.grownBy w' (some cb)) (hb : cb < base) : BxO base w' x :=
 h.keep (fun g_ a b => g.block g_ b (by simp; omega))
theorem bxOk_draw {x : BxD} (h : bxOk x.p = true) : x.po ≤ 4 ∧ x.net.length ≤ 20 ∧ (0 ≤ x.rg.ow ∧ x.rg.ow ≤ 1) := by
 obtain ⟨h1, h2, h3, h4, h5, h6, h7, h8, h9, h10⟩ := bxOk_is.1 h
 have h1 : nOk x.id x.po = true := h1
 have h2 : rgOk x.rg = true := h2
 unfold nOk at h1
 unfold rgOk at h2
 simp only [Bool.and_eq_true, decide_eq_true_eq] at h1 h2
 exact ⟨by omega, h7, by omega⟩
structure RunQ (w : World) (cb : Nat) (ad : Option Addr) (len cap p7 p9 : Nat) (s x : BxD) (W : World) : Prop where
 D : DV w cb ad len cap W
 Z4 : ZBx W w.heap.size
 Z6 : ZBx W (w.heap.size + 1)
 A7 : BxB W p7 s
 A9 : BxB W p9 x
 O : BxO w.heap.size W x
 h7 : w.heap.size + 1 < p7
 h9 : p7 < p9
theorem RunQ.later {w W : World} {cb : Nat} {ad : Option Addr} {len cap p7 p9 : Nat} {s x : BxD} {W2 : World} (h : RunQ w cb ad len cap p7 p9 s x W) (k : Below W.heap.size W W2) : RunQ w cb ad len cap p7 p9 s x W2 :=
 ⟨h.D.later8 k, h.Z4.keep (k.block _ h.Z4.lt_), h.Z6.keep (k.block _ h.Z6.lt_), h.A7.below k h.A7.lt, h.A9.below k h.A9.lt, h.O.later k, h.h7, h.h9⟩
theorem RunQ.step {w W : World} {cb : Nat} {ad : Option Addr} {len cap p7 p9 : Nat} {s x : BxD} {W2 : World} {f : Nat → Int} (h : RunQ w cb ad len cap p7 p9 s x W) (hcb : cb < w.heap.size) (s_ : Src W2 cb ad len cap f) (g : W.grownBy W2 (some cb)) : RunQ w cb ad len cap p7 p9 s x W2 :=
 ⟨h.D.step s_ g, h.Z4.keep (g.block _ h.Z4.lt_ (by simp; omega)), h.Z6.keep (g.block _ h.Z6.lt_ (by simp; omega)), h.A7.keep (g.block _ h.A7.lt (by have := h.h7; simp; omega)), h.A9.keep (g.block _ h.A9.lt (by have := h.h7; have := h.h9; simp; omega)), h.O.cur g hcb, h.h7, h.h9⟩
theorem RunQ.row {w W : World} {cb : Nat} {ad : Option Addr} {len cap p7 p9 : Nat} {s x : BxD} {W2 : World} {v : Value} {L : List De} (h : RunQ w cb ad len cap p7 p9 s x W) (hcb : cb < w.heap.size) (f : FOwn deEnc 10 103 (p9 + 1) W v L) (g : W.grownBy W2 v.ownBlock) : RunQ w cb ad len cap p7 p9 s x W2 := by
 have ho : ∀ k, v.ownBlock = some k → p9 + 1 ≤ k := fun k e => (f.lt k e).1
 have h7 := h.h7
 have h9 := h.h9
 have kp : ∀ q, q < W.heap.size → q < p9 + 1 → W2.heap[q]? = W.heap[q]? := fun q a b => g.block q a (fun e => by have := ho q e.symm; omega)
 exact ⟨⟨h.D.cur.carry (kp _ h.D.cur.lt (by omega)), grown_row h.D.gr g (fun k e => by have := ho k e; omega)⟩, h.Z4.keep (kp _ h.Z4.lt_ (by omega)), h.Z6.keep (kp _ h.Z6.lt_ (by omega)), h.A7.keep (kp _ h.A7.lt (by omega)), h.A9.keep (kp _ h.A9.lt (by omega)), h.O.rowT f (by decide) (by decide) (by decide) (by decide) (by decide) g, h7, h9⟩
theorem DV.put10_ {w W : World} {cb : Nat} {ad : Option Addr} {len cap q : Nat} (z : BxD) (h : DV w cb ad len cap W) (hq : w.heap.size ≤ q) (hcb : cb < w.heap.size) : DV w cb ad len cap ((((((((((W.setCell ⟨q, 0, none⟩ (.int .i64 z.id)).setCell ⟨q, 1, none⟩ (.int .i64 z.po)).setCell ⟨q, 2, none⟩ (.int .i64 z.rg.ep)).setCell ⟨q, 3, none⟩ (.int .i64 z.rg.ow)).setCell ⟨q, 4, none⟩ (.int .i64 z.rg.pa)).setCell ⟨q, 5, none⟩ (.slice z.aT z.two.length z.cT)).setCell ⟨q, 6, none⟩ (.slice z.aN z.net.length z.cN)).setCell ⟨q, 7, none⟩ (.slice z.aG z.ga.length z.cG)).setCell ⟨q, 8, none⟩ (.slice z.aL z.ln.length z.cL)).setCell ⟨q, 9, none⟩ (.slice z.aS z.sd.length z.cS)) :=
 ((((((((((h.set hq hcb _).set hq hcb _).set hq hcb _).set hq hcb _).set hq hcb _).set hq hcb _).set hq hcb _).set hq hcb _).set hq hcb _).set hq hcb _)
theorem RunQ.put {w W : World} {cb : Nat} {ad : Option Addr} {len cap p7 p9 : Nat} {s x : BxD} {base : Nat} (h : RunQ w cb ad len cap p7 p9 s x W) (hcb : cb < w.heap.size) (z : BxD) (hz : BxO base W z) (hb : p9 < base) : RunQ w cb ad len cap p7 p9 s z ((((((((((W.setCell ⟨p9, 0, none⟩ (.int .i64 z.id)).setCell ⟨p9, 1, none⟩ (.int .i64 z.po)).setCell ⟨p9, 2, none⟩ (.int .i64 z.rg.ep)).setCell ⟨p9, 3, none⟩ (.int .i64 z.rg.ow)).setCell ⟨p9, 4, none⟩ (.int .i64 z.rg.pa)).setCell ⟨p9, 5, none⟩ (.slice z.aT z.two.length z.cT)).setCell ⟨p9, 6, none⟩ (.slice z.aN z.net.length z.cN)).setCell ⟨p9, 7, none⟩ (.slice z.aG z.ga.length z.cG)).setCell ⟨p9, 8, none⟩ (.slice z.aL z.ln.length z.cL)).setCell ⟨p9, 9, none⟩ (.slice z.aS z.sd.length z.cS)) := by
 have h7 := h.h7
 have h9 := h.h9
 have kp : ∀ k, k ≠ p9 → ((((((((((W.setCell ⟨p9, 0, none⟩ (.int .i64 z.id)).setCell ⟨p9, 1, none⟩ (.int .i64 z.po)).setCell ⟨p9, 2, none⟩ (.int .i64 z.rg.ep)).setCell ⟨p9, 3, none⟩ (.int .i64 z.rg.ow)).setCell ⟨p9, 4, none⟩ (.int .i64 z.rg.pa)).setCell ⟨p9, 5, none⟩ (.slice z.aT z.two.length z.cT)).setCell ⟨p9, 6, none⟩ (.slice z.aN z.net.length z.cN)).setCell ⟨p9, 7, none⟩ (.slice z.aG z.ga.length z.cG)).setCell ⟨p9, 8, none⟩ (.slice z.aL z.ln.length z.cL)).setCell ⟨p9, 9, none⟩ (.slice z.aS z.sd.length z.cS)).heap[k]? = W.heap[k]? := fun k hk => heap_put10 W p9 k z hk
 exact ⟨h.D.put10_ z (by omega) hcb, h.Z4.keep (kp _ (by omega)), h.Z6.keep (kp _ (by omega)), h.A7.keep (kp _ (by omega)), h.A9.put z, (hz.keep (fun g a _ => kp g (by omega))).base (by omega), h7, h9⟩
def DrewRun (w : World) (cb : Nat) (ad : Option Addr) (len cap : Nat) (f : Nat → Int) (e : Ending) (w' : World) : Prop :=
 ∃ (s x : BxD) (v : Value), e = .returned (.tuple #[.agg #[.int .i64 s.id, .int .i64 s.po, .int .i64 s.rg.ep, .int .i64 s.rg.ow, .int .i64 s.rg.pa, .slice s.aT s.two.length s.cT, .slice s.aN s.net.length s.cN, .slice s.aG s.ga.length s.cG, .slice s.aL s.ln.length s.cL, .slice s.aS s.sd.length s.cS], v, .agg #[.int .i64 x.id, .int .i64 x.po, .int .i64 x.rg.ep, .int .i64 x.rg.ow, .int .i64 x.rg.pa, .slice x.aT x.two.length x.cT, .slice x.aN x.net.length x.cN, .slice x.aG x.ga.length x.cG, .slice x.aL x.ln.length x.cL, .slice x.aS x.sd.length x.cS]]) ∧ bxOk x.p = true ∧ BxO w.heap.size w' x ∧ Src w' cb ad len cap f ∧ w.grownBy w' (some cb)
def DrewBX (w : World) (cb : Nat) (ad : Option Addr) (len cap : Nat) (f : Nat → Int) (e : Ending) (w' : World) : Prop :=
 ∃ x : BxD, e = .returned (.agg #[.int .i64 x.id, .int .i64 x.po, .int .i64 x.rg.ep, .int .i64 x.rg.ow, .int .i64 x.rg.pa, .slice x.aT x.two.length x.cT, .slice x.aN x.net.length x.cN, .slice x.aG x.ga.length x.cG, .slice x.aL x.ln.length x.cL, .slice x.aS x.sd.length x.cS]) ∧ bxOk x.p = true ∧ BxO w.heap.size w' x ∧ Src w' cb ad len cap f ∧ w.grownBy w' (some cb)
set_option maxHeartbeats 4000000 in
theorem bofS (id n : Int) (ad : Option Addr) (cap : Nat) (X : List Ik) (w : World) (hv : FView ikEnc w ad X) (hl : X.length ≤ 1048576) :
  Calls Try.prog 77 #[.int .i64 id, .int .i64 n, .slice ad X.length cap] w fun e w' => ∃ a c, e = .returned (.agg #[.int .i64 (newI id n), .slice a (ofR id n X).length c]) ∧ FOwn ptEnc 11 119 w.heap.size w' (.slice a (ofR id n X).length c) (ofR id n X) ∧ Below w.heap.size w w' := by
 have hB := hv.lt ikEnc_len (by omega)
 obtain ⟨y, hy⟩ := mk_ (w.alloc (Obj.cells #[.int .i64 0, .slice none 0 0] 110))
 have B0 : Below w.heap.size w y := by rw [hy]; exact below_new _
 have A0 : BBox y w.heap.size 0 (.slice none 0 0) := by rw [hy]; exact BBox.new w _ _ _
 have S0 := A0.lt
 have hR : ofR id n X = ofL (newI id n) (newL id n) X := rfl
 have hNl := newL_small id n
 have hno := fun h => ofR_not (id := id) (n := n) X h
 obtain ⟨I, hI⟩ : ∃ v, newI id n = v := ⟨_, rfl⟩
 obtain ⟨N, hN⟩ : ∃ v, newL id n = v := ⟨_, rfl⟩
 obtain ⟨ok, hok⟩ : ∃ v, nOk id n = v := ⟨_, rfl⟩
 obtain ⟨D, hD⟩ : ∃ v, ofR id n X = v := ⟨_, rfl⟩
 rw [hI, hN, hD] at hR
 rw [hI, hD, hok] at hno
 rw [hN] at hNl
 rw [hI, hD]
 replace hR : Hid _ := hR
 replace hno : Hid _ := hno
 replace hI : Hid _ := hI
 replace hN : Hid _ := hN
 replace hok : Hid _ := hok
 clear hD
 go_enter Try.func77, Try.ntmps77
 go_wp2_with fail
 go_at_call 54
 rw [← hy]
 clear hy
 refine (newBS id n y).mono ?_
 rintro e u1 ⟨a1, c1, rfl, O1, k1⟩
 rw [hN.out] at O1
 rw [hI.out, hN.out, hok.out]
 clear hI hN hok
 have B1 := B0.trans (k1.mono B0.size)
 have A0 := A0.below k1 A0.lt
 have s1 := k1.size
 have lo1 := O1.lt
 clear k1 B0
 obtain ⟨u2, hu2⟩ := mk_ (u1.alloc (Obj.cells #[.int .i64 I, .slice a1 N.length c1] 110))
 have k2 : Below u1.heap.size u1 u2 := by rw [hu2]; exact below_new _
 have P2 : BBox u2 u1.heap.size I (.slice a1 N.length c1) := by rw [hu2]; exact BBox.new u1 _ _ _
 have B2 := B1.trans (k2.mono B1.size)
 have A0 := A0.below k2 A0.lt
 have O1 := O1.later k2
 have s2 := P2.lt
 go_upto_region 2 with fail
 rw [← hu2]
 clear hu2 k2 B1
 obtain ⟨p, hp⟩ := mk_ u1.heap.size
 rw [← hp] at P2 s1 s2 lo1 ⊢
 clear hp
 have lp : w.heap.size < p := by omega
 clear hno
 go_wp2
 go_loopw [9] (fun i wr => ∃ (k : Nat) (a : Option Addr) (c : Nat) (L : List Pt), k ≤ X.length ∧ i = .int .i64 k ∧ ofL I N (X.take k) = L ∧ BBox wr p I (.slice a L.length c) ∧ FOwn ptEnc 11 119 w.heap.size wr (.slice a L.length c) L ∧ (∀ g, (Value.slice a L.length c).ownBlock = some g → g ≠ p ∧ g ≠ w.heap.size) ∧ BBox wr w.heap.size 0 (.slice none 0 0) ∧ Below w.heap.size w wr) (fun i _ => X.length - (intOf i).toNat)
 case atStart => exact ⟨0, a1, c1, N, Nat.zero_le _, rfl, rfl, P2, O1.base (by omega), fun g e => by have := lo1 g e; omega, A0, B2⟩
 case round =>
  obtain ⟨k, a, c, L, hk, rfl, hL, P, O, hne, A, B⟩ := hrel
  have hLl : L.length ≤ 4 := by rw [← hL, ofL_len]; exact hNl
  clear A0 P2 O1 B2 lo1
  by_cases hlt : k < X.length
  ·
   have hst := ofL_step I N X Ik.nil hlt
   rw [hL] at hst
   replace hL : Hid _ := hL
   obtain ⟨b, off, rfl, _⟩ := hv (by omega)
   obtain ⟨x, hh⟩ : ∃ x, X.getD k Ik.nil = x := ⟨_, rfl⟩
   rw [hh] at hst
   have hck : IkAtO wr b (off + k * 8) x := by
    rw [← hh]
    exact ikAtO_of ((hv.below B hB).at_ ikEnc_len Ik.nil hlt)
   have hcB : b < w.heap.size := hB ⟨b, off, none⟩ rfl (by omega)
   replace hst : Hid _ := hst
   clear hh
   have lp2 := P.lt
   have bs := B.size
   have ln := O.lt
   go_upto_region 5 with fail
   refine wp_region_held (S := fun Y => Below w.heap.size wr Y) (by kernel_rfl) ?_
   change wpAnyH _ _ _ _ _ _ _ _ (World.drew _)
   have hb0 : Below wr.heap.size wr wr.drew := (Below.refl _ _).drew
   obtain ⟨u, hy0'⟩ : ∃ y_, y_ = wr.drew := ⟨_, rfl⟩
   rw [← hy0'] at hb0 ⊢
   clear hy0'
   have hc0 : Below w.heap.size wr u := hb0.mono (by omega)
   refine tw 1 24 (.slice (some ⟨b, off, none⟩) X.length cap) ?_
   refine tw 2 25 (.int .i64 (k : Int)) ?_
   refine tw 3 26 (.pointer (some ⟨b, off + k * 8, none⟩)) ?_
   refine tw 4 27 (.agg #[.int .i64 x.k, .int .i64 x.q, .int .i64 x.r, .int .i64 x.c, .int .i64 x.b, .int .i64 x.p, .int .i64 x.h, .bool x.up]) ?_ (hy := by intro Y hSw; obtain ⟨X0, X1, X2, X3, X4, X5, X6, X7⟩ := hck.below hSw hcB; go_simp)
   have P := P.below hb0 P.lt
   have A := A.below hb0 A.lt
   have O := O.later hb0
   have B3 := B.trans (hb0.mono B.size)
   have su := hb0.size
   refine w1 0 fun Kz hKz => ?_
   have cc := P
   obtain ⟨⟨p0, p1⟩, pf⟩ := cc
   go_simp
   clear p0 p1 pf
   refine hKz _ _ ⟨hc0, ?_⟩
   clear hKz Kz
   refine w1 5 fun Kz hKz => ?_
   go_simp
   go_at_call 76
   refine (reactS I a c L x u O.view.2 (by omega) O.capn).mono ?_
   rintro e w2 ⟨a2, c2, o2, d2, rfl, O2, _, _, k2⟩
   obtain ⟨M, hM⟩ : ∃ M, reactL I L x = M := ⟨_, rfl⟩
   obtain ⟨OO, hOO⟩ : ∃ M, reactO I L x = M := ⟨_, rfl⟩
   rw [hM] at O2 ⊢
   rw [hOO]
   have hst2 : Hid (ofL I N (X.take (k + 1)) = M) := by unfold Hid; rw [hst.out]; exact hM
   clear hM hOO hst
   have hc1 : Below w.heap.size wr w2 := hc0.trans (k2.mono (by omega))
   have P := P.below k2 P.lt
   have A := A.below k2 A.lt
   have B3 := B3.trans (k2.mono B3.size)
   refine hKz _ _ ⟨hc1, ?_⟩
   clear hKz Kz
   refine tw 6 22 (.tuple #[.agg #[.int .i64 I, .slice a2 M.length c2], .slice o2 OO.length d2]) ?_
   refine tw 7 29 (.agg #[.int .i64 I, .slice a2 M.length c2]) ?_
   refine tw 8 30 (.slice o2 OO.length d2) ?_
   refine w1 9 fun Kz hKz => ?_
   have cc := P
   obtain ⟨⟨p0, p1⟩, pf⟩ := cc
   have g0 := pf 0
   have g1 := pf 1
   clear pf
   go_simp
   clear p0 p1 g0 g1
   have hc2 : Below w.heap.size wr ((w2.setCell ⟨p, 0, none⟩ (.int .i64 I)).setCell ⟨p, 1, none⟩ (.slice a2 M.length c2)) := (hc1.setCell (p := ⟨p, 0, none⟩) (by show _ ≤ p; omega) _).setCell (p := ⟨p, 1, none⟩) (by show _ ≤ p; omega) _
   refine hKz _ _ ⟨hc2, ?_⟩
   clear hKz Kz
   refine wpAnyH_done (by kernel_rfl) ?_ _
   have P9 := P.put I (.slice a2 M.length c2)
   have lo2 := O2.lt
   have O9 : FOwn ptEnc 11 119 w.heap.size ((w2.setCell ⟨p, 0, none⟩ (.int .i64 I)).setCell ⟨p, 1, none⟩ (.slice a2 M.length c2)) (.slice a2 M.length c2) M := (O2.base (by omega)).keep (fun g e => P.put1 I _ g (by have := lo2 g e; omega))
   have A9 := A.keep (P.put1 I (.slice a2 M.length c2) w.heap.size (by omega))
   have B9 : Below w.heap.size w ((w2.setCell ⟨p, 0, none⟩ (.int .i64 I)).setCell ⟨p, 1, none⟩ (.slice a2 M.length c2)) := (B3.setCell (p := ⟨p, 0, none⟩) (by show _ ≤ p; omega) _).setCell (p := ⟨p, 1, none⟩) (by show _ ≤ p; omega) _
   have hne9 : ∀ g, (Value.slice a2 M.length c2).ownBlock = some g → g ≠ p ∧ g ≠ w.heap.size := fun g e => by have := lo2 g e; omega
   clear O O2 hne ln A k2 B3 lo2 P
   go_wp2
   go_roundw
   case rel => exact ⟨k + 1, a2, c2, M, by omega, by go_num, hst2.out, P9, O9, hne9, A9, B9⟩
   case measure => simp [intOf]; omega
  ·
   obtain rfl : k = X.length := by omega
   rw [List.take_length] at hL
   obtain rfl : D = L := hR.out.trans hL
   have O9 : FOwn ptEnc 11 119 w.heap.size ((wr.setCell ⟨w.heap.size, 0, none⟩ (.int .i64 I)).setCell ⟨w.heap.size, 1, none⟩ (.slice a D.length c)) (.slice a D.length c) D := O.keep (fun g e => A.put1 I _ g (hne g e).2)
   have B9 : Below w.heap.size w ((wr.setCell ⟨w.heap.size, 0, none⟩ (.int .i64 I)).setCell ⟨w.heap.size, 1, none⟩ (.slice a D.length c)) := (B.setCell (p := ⟨w.heap.size, 0, none⟩) (Nat.le_refl _) _).setCell (p := ⟨w.heap.size, 1, none⟩) (Nat.le_refl _) _
   obtain ⟨⟨p0, p1⟩, pf⟩ := P
   obtain ⟨⟨z0, z1⟩, zf⟩ := A
   have g0 := zf 0
   have g1 := zf 1
   clear pf zf hne O B hL hR
   go_wp2
   refine bodyPost_ret (v := .agg #[.int .i64 I, .slice a D.length c]) (by simp [results, Try.results77, go_sem, *]) rfl ⟨a, c, rfl, O9, B9⟩
end Go.Proofs.Ytnpiljegdiconaa
