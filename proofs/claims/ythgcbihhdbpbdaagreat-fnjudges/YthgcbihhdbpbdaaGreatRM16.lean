import Derived.Test.YthgcbihhdbpbdaaGreatRM15
import Derived.Test.YthgcbihhdbpbdaaGreatRM27
namespace Go.Proofs.YthgcbihhdbpbdaaGreat
open Go.ChangeShapes Go.WideShapes Go.ChangeAt Go.RowKit
open Go.ChangeMaps (open_string shut_string)
set_option linter.unusedVariables false
set_option maxRecDepth 100000
set_option maxHeartbeats 32000000
set_option linter.unusedSimpArgs false
open Go.Proofs.Tryz
theorem HZ {m : Mi} {x : Ik} {n : Nat} (h : m.lg.length ≤ n) : (AQ m x).lg.length ≤ n + 1 := by
 unfold AQ;split
 ·
  show (m.lg ++ [x]).length ≤ n + 1;simp only [List.length_append, List.length_cons, List.length_nil]; omega
 omega
def Br (n : Nat) (x : Bx) : Prop := x.two.length = 2 ∧ (∀ k, k < 2 → (x.two.getD k Mi.nil).lg.length ≤ n) ∧ x.net.length ≤ n ∧ x.ga.length ≤ n ∧ x.ln.length ≤ n ∧ x.sd.length ≤ n
theorem Br.setM {n : Nat} {x : Bx} (h : Br n x) (s : Int) {m : Mi} (hm : m.lg.length ≤ n) : Br n (EG x s m) := by
 obtain ⟨h1, h2, h3, h4, h5, h6⟩ := h;refine ⟨by show (x.two.set s.toNat m).length = 2; rw [List.length_set]; exact h1, fun k hk => ?_, h3, h4, h5, h6⟩;show ((x.two.set s.toNat m).getD k Mi.nil).lg.length ≤ n;rw [List.getD_eq_getElem?_getD, List.getElem?_set];by_cases e : s.toNat = k
 ·
  rw [if_pos e, if_pos (by omega)];exact hm
 rw [if_neg e];have := h2 k hk;rwa [List.getD_eq_getElem?_getD] at this
theorem Br.net {n : Nat} {x : Bx} (h : Br n x) {N : List Wi} (hN : N.length ≤ n) : Br n (DB x N) := ⟨h.1, h.2.1, hN, h.2.2.2.1, h.2.2.2.2.1, h.2.2.2.2.2⟩
theorem Br.reg {n : Nat} {x : Bx} (h : Br n x) (r : Rg) : Br n (FZ x r) := h
theorem Br.up {n k : Nat} {x : Bx} (h : Br n x) (hk : n ≤ k) : Br k x := ⟨h.1, fun j hj => Nat.le_trans (h.2.1 j hj) hk, by have := h.2.2.1; omega, by have := h.2.2.2.1; omega, by have := h.2.2.2.2.1; omega, by have := h.2.2.2.2.2; omega⟩
theorem Br.lg_ {n : Nat} {x : Bx} (h : Br n x) (s : Int) : (AT x s).lg.length ≤ n := by
 by_cases k : s.toNat < 2
 ·
  exact h.2.1 s.toNat k
 unfold AT;have hn : x.two.length ≤ s.toNat := by have := h.1; omega
 rw [List.getD_eq_getElem?_getD, List.getElem?_eq_none hn];exact Nat.zero_le _
theorem Br.of {x : Bx} (h : AX x = true) : Br 60 x := by
 obtain ⟨_, _, h3, h4, h5, _, h7, h8, h9, h10⟩ := Dj.1 h;obtain ⟨hn, _⟩ := Dj.1 h;refine ⟨h3, fun k hk => ?_, by omega, ?_, ?_, by omega⟩
 ·
  rcases (by omega : k = 0 ∨ k = 1) with rfl | rfl
  ·
   exact ER h4
  exact ER h5
 ·
  unfold Ay at hn;simp only [Bool.and_eq_true, decide_eq_true_eq] at hn;omega
 unfold Co at h9;simp only [Bool.and_eq_true, decide_eq_true_eq] at h9;exact h9.2
theorem Br.acc {n : Nat} {x : Bx} (h : Br n x) (hn : 40 ≤ n) (s : Int) (O : List Ou) : Br n (Cp x s O) := by
 unfold Cp;split
 ·
  exact ⟨h.1, h.2.1, h.2.2.1, by show (O.foldl EL x.ga).length ≤ n; rw [Hg]; exact h.2.2.2.1, h.2.2.2.2.1, by have := Ha (x.sd ++ O); show (Bv (x.sd ++ O)).length ≤ n; omega⟩
 exact h
theorem Br.line_ {n : Nat} {x : Bx} (h : Br n x) (k : Int) (y : Ik) : Br (n + 1) (EE x k y) := by
 unfold EE;split
 ·
  refine ⟨h.1, fun j hj => by have := h.2.1 j hj; show (x.two.getD j Mi.nil).lg.length ≤ n + 1; omega, by have := h.2.2.1; show x.net.length ≤ n + 1; omega, by have := h.2.2.2.1; show x.ga.length ≤ n + 1; omega, ?_, by have := h.2.2.2.2.2; show x.sd.length ≤ n + 1; omega⟩;show (x.ln ++ [y]).length ≤ n + 1;have := h.2.2.2.2.1;simp only [List.length_append, List.length_cons, List.length_nil];omega
 exact h.up (by omega)
theorem Br.take_ {n : Nat} {x : Bx} (h : Br n x) (d : De) : Br n (DB x (x.net.take d.a.toNat ++ x.net.drop (d.a.toNat + 1))) := h.net (by
 have := h.2.2.1;simp only [List.length_append, List.length_take, List.length_drop];omega)
theorem Br.hear_ {n : Nat} {x : Bx} (h : Br n x) (w : Wi) : Br (n + 1) (Do x w) := by
 unfold Do;split
 ·
  exact (h.up (by omega)).setM _ (HZ (h.lg_ _))
 exact h.up (by omega)
theorem Br.heard {n : Nat} {x : Bx} (h : Br n x) (w : Wi) : Br (n + 1) (C6 x w) := by
 have hN := h.hear_ w;have hl := hN.2.2.1;have hu := h.up (show n ≤ n + 1 by omega);unfold C6;split
 ·
  exact hu
 split
 ·
  split
  ·
   exact hu.setM _ (hu.lg_ _)
  exact hu
 split
 ·
  exact hu
 split
 ·
  refine hN.net ?_;have := h.2.2.1;simp only [List.length_append, List.length_cons, List.length_nil];omega
 exact hN
theorem Br.one {x : Bx} (h : Br 60 x) (d : De) : Br 62 (DI x d).1 := by
 have hu := h.up (show 60 ≤ 62 by omega);have hn := h.2.2.1;unfold DI;split
 ·
  unfold Eb;split
  ·
   exact hu
  split
  ·
   exact hu.setM _ (Nat.le_trans (HZ (h.lg_ _)) (by omega))
  exact hu
 split
 ·
  unfold EM;split
  ·
   exact hu
  exact (((h.acc (by omega) _ _).line_ _ _).up (by omega)).setM _ (hu.lg_ _)
 split
 ·
  unfold Db;split
  ·
   exact hu
  split
  ·
   split
   ·
    exact hu
   refine hu.net ?_;simp only [List.length_append, List.length_cons, List.length_nil];omega
  split
  ·
   exact ((h.take_ d).heard _).up (by omega)
  exact hu.take_ d
 split
 ·
  exact hu
 split
 ·
  unfold Eh;split
  ·
   exact hu
  split
  ·
   exact hu
  refine hu.net ?_;simp only [List.length_append, List.length_cons, List.length_nil];omega
 split
 ·
  unfold Dr;split
  ·
   exact hu.setM _ (Nat.zero_le _)
  split
  ·
   exact hu.setM _ (Nat.zero_le _)
  exact hu
 unfold EV;split
 ·
  split
  ·
   exact hu
  split
  ·
   exact hu
  refine (hu.reg _).setM _ ?_;exact hu.lg_ d.a
 split <;> split <;> first | exact hu.reg _ | exact hu
theorem AO.smV {base n : Nat} {w : World} {x : AG} (h : AO base w x) (hs : Br n x.p) (hn : n ≤ 1000) : Cs w x := by
 obtain ⟨h1, h2, h3, h4, h5, h6⟩ := hs;have e2 : x.two.length = 2 := by have h1 : (x.two.map AF.m).length = 2 := h1; simpa using h1
 refine h.view (by omega) (fun i hi => ?_) (by have h3 : x.net.length ≤ n := h3; omega) (by have h4 : x.ga.length ≤ n := h4; omega) (by have h5 : x.ln.length ≤ n := h5; omega) (by have h6 : x.sd.length ≤ n := h6; omega);have := h2 i (by omega);have e := CC x (i : Int);unfold AT at e;simp only [Int.toNat_natCast] at e;rw [e] at this;omega
attribute [local go_sem] ji ja bc
def DS (d : De) : List Value := [ji d.k, ji d.a, ji d.x.k, ji d.x.q, ji d.x.r, ji d.x.c, ji d.x.b, ji d.x.p, ji d.x.h, .bool d.x.up]
theorem I9 (d : De) : (DS d).length = 10 := rfl
theorem Is (L : List De) : ∀ u ∈ Ac DS L, u.oneCell' = true := by
 induction L with
 | nil => intro u h; cases h
 | cons x L ih =>
  intro u h;simp only [Ac, DS, List.mem_append, List.mem_cons, List.not_mem_nil, or_false] at h;rcases h with (rfl | rfl | rfl | rfl | rfl | rfl | rfl | rfl | rfl | rfl) | h
  ·
   rfl
  ·
   rfl
  ·
   rfl
  ·
   rfl
  ·
   rfl
  ·
   rfl
  ·
   rfl
  ·
   rfl
  ·
   rfl
  ·
   rfl
  exact ih u h
theorem KT : (prog.info? 178).map (fun i => (i.zero, i.size, i.bytes)) = some (some (.agg #[ji 0, ji 0, ji 0, ji 0, ji 0, ji 0, ji 0, ji 0, ji 0, .bool false]), 10, 80) := by kernel_rfl
theorem AH.oneDe (w : World) (t : TypeId) (d : De) : AH DS (w.alloc (Obj.cells #[ji d.k, ji d.a, ji d.x.k, ji d.x.q, ji d.x.r, ji d.x.c, ji d.x.b, ji d.x.p, ji d.x.h, .bool d.x.up] t)) (some (ja w.heap.size 0)) [d] := by
 intro _;refine ⟨w.heap.size, 0, rfl, fun j u hv => ?_⟩;simp only [Ac, DS, List.append_nil] at hv;have hj : j < 10 := (List.getElem?_eq_some_iff.1 hv).1;rcases (by omega : j = 0 ∨ j = 1 ∨ j = 2 ∨ j = 3 ∨ j = 4 ∨ j = 5 ∨ j = 6 ∨ j = 7 ∨ j = 8 ∨ j = 9) with rfl | rfl | rfl | rfl | rfl | rfl | rfl | rfl | rfl | rfl <;> (cases hv; simp [go_sem])
theorem AO.rowT {base : Nat} {w w' : World} {x : AG} (h : AO base w x) {X : Type} {enc : X → List Value} {n : Nat} {T : TypeId} {b : Nat} {v : Value} {L : List X} (f : AD enc n T b w v L) (t1 : T ≠ 52) (t2 : T ≠ 64) (t3 : T ≠ 75) (t4 : T ≠ 4) (t5 : T ≠ 77) (g : w.grownBy w' v.ownBlock) : AO base w' x :=
 ⟨h.t.keep (fun g_ e => g.block g_ (h.t.lt g_ e).2 (fun e2 => f.apart h.t t1 e2.symm e)), fun i hi => (h.l i hi).keep (fun g_ e => g.block g_ ((h.l i hi).lt g_ e).2 (fun e2 => f.apart (h.l i hi) t2 e2.symm e)), h.n.keep (fun g_ e => g.block g_ (h.n.lt g_ e).2 (fun e2 => f.apart h.n t3 e2.symm e)), h.g.keep (fun g_ e => g.block g_ (h.g.lt g_ e).2 (fun e2 => f.apart h.g t4 e2.symm e)), h.i.keep (fun g_ e => g.block g_ (h.i.lt g_ e).2 (fun e2 => f.apart h.i t2 e2.symm e)), h.s.keep (fun g_ e => g.block g_ (h.s.lt g_ e).2 (fun e2 => f.apart h.s t5 e2.symm e)), h.ap⟩
theorem AO.cur {base cb : Nat} {w w' : World} {x : AG} (h : AO base w x) (g : w.grownBy w' (some cb)) (hb : cb < base) : AO base w' x :=
 h.keep (fun g_ a b => g.block g_ b (by simp; omega))
theorem JA {x : AG} (h : AX x.p = true) : x.po ≤ 4 ∧ x.net.length ≤ 20 ∧ (0 ≤ x.rg.ow ∧ x.rg.ow ≤ 1) := by
 obtain ⟨h1, h2, h3, h4, h5, h6, h7, h8, h9, h10⟩ := Dj.1 h;have h1 : Ay x.id x.po = true := h1;have h2 : BR x.rg = true := h2;unfold Ay at h1;unfold BR at h2;simp only [Bool.and_eq_true, decide_eq_true_eq] at h1 h2;exact ⟨by omega, h7, by omega⟩
structure Cw (w : World) (cb : Nat) (ad : Option Addr) (len cap p7 p9 : Nat) (s x : AG) (W : World) : Prop where
 D : DV w cb ad len cap W
 Z4 : Aw W w.heap.size
 Z6 : Aw W (w.heap.size + 1)
 A7 : AW W p7 s
 A9 : AW W p9 x
 O : AO w.heap.size W x
 h7 : w.heap.size + 1 < p7
 h9 : p7 < p9
theorem Cw.later {w W : World} {cb : Nat} {ad : Option Addr} {len cap p7 p9 : Nat} {s x : AG} {W2 : World} (h : Cw w cb ad len cap p7 p9 s x W) (k : Bw W W2) : Cw w cb ad len cap p7 p9 s x W2 :=
 ⟨h.D.later8 k, h.Z4.keep (k.block _ h.Z4.lt_), h.Z6.keep (k.block _ h.Z6.lt_), h.A7.below k h.A7.lt, h.A9.below k h.A9.lt, h.O.later k, h.h7, h.h9⟩
theorem Cw.step {w W : World} {cb : Nat} {ad : Option Addr} {len cap p7 p9 : Nat} {s x : AG} {W2 : World} {f : Nat → Int} (h : Cw w cb ad len cap p7 p9 s x W) (hcb : cb < w.heap.size) (s_ : BN W2 cb ad len cap f) (g : W.grownBy W2 (some cb)) : Cw w cb ad len cap p7 p9 s x W2 :=
 ⟨h.D.step s_ g, h.Z4.keep (g.block _ h.Z4.lt_ (by simp; omega)), h.Z6.keep (g.block _ h.Z6.lt_ (by simp; omega)), h.A7.keep (g.block _ h.A7.lt (by have := h.h7; simp; omega)), h.A9.keep (g.block _ h.A9.lt (by have := h.h7; have := h.h9; simp; omega)), h.O.cur g hcb, h.h7, h.h9⟩
theorem Cw.row {w W : World} {cb : Nat} {ad : Option Addr} {len cap p7 p9 : Nat} {s x : AG} {W2 : World} {v : Value} {L : List De} (h : Cw w cb ad len cap p7 p9 s x W) (hcb : cb < w.heap.size) (f : AD DS 10 178 (p9 + 1) W v L) (g : W.grownBy W2 v.ownBlock) : Cw w cb ad len cap p7 p9 s x W2 := by
 have ho : ∀ k, v.ownBlock = some k → p9 + 1 ≤ k := fun k e => (f.lt k e).1
 have h7 := h.h7;have h9 := h.h9;have kp : ∀ q, q < W.heap.size → q < p9 + 1 → W2.heap[q]? = W.heap[q]? := fun q a b => g.block q a (fun e => by have := ho q e.symm; omega)
 exact ⟨⟨h.D.cur.carry (kp _ h.D.cur.lt (by omega)), He h.D.gr g (fun k e => by have := ho k e; omega)⟩, h.Z4.keep (kp _ h.Z4.lt_ (by omega)), h.Z6.keep (kp _ h.Z6.lt_ (by omega)), h.A7.keep (kp _ h.A7.lt (by omega)), h.A9.keep (kp _ h.A9.lt (by omega)), h.O.rowT f (by decide) (by decide) (by decide) (by decide) (by decide) g, h7, h9⟩
theorem DV.put10_ {w W : World} {cb : Nat} {ad : Option Addr} {len cap q : Nat} (z : AG) (h : DV w cb ad len cap W) (hq : w.heap.size ≤ q) (hcb : cb < w.heap.size) : DV w cb ad len cap ((((((((((W.setCell (ja q 0) (ji z.id)).setCell (ja q 1) (ji z.po)).setCell (ja q 2) (ji z.rg.ep)).setCell (ja q 3) (ji z.rg.ow)).setCell (ja q 4) (ji z.rg.pa)).setCell (ja q 5) (.slice z.aT z.two.length z.cT)).setCell (ja q 6) (.slice z.aN z.net.length z.cN)).setCell (ja q 7) (.slice z.aG z.ga.length z.cG)).setCell (ja q 8) (.slice z.aL z.ln.length z.cL)).setCell (ja q 9) (.slice z.aS z.sd.length z.cS)) :=
 ((((((((((h.set hq hcb _).set hq hcb _).set hq hcb _).set hq hcb _).set hq hcb _).set hq hcb _).set hq hcb _).set hq hcb _).set hq hcb _).set hq hcb _)
theorem Cw.put {w W : World} {cb : Nat} {ad : Option Addr} {len cap p7 p9 : Nat} {s x : AG} {base : Nat} (h : Cw w cb ad len cap p7 p9 s x W) (hcb : cb < w.heap.size) (z : AG) (hz : AO base W z) (hb : p9 < base) : Cw w cb ad len cap p7 p9 s z ((((((((((W.setCell (ja p9 0) (ji z.id)).setCell (ja p9 1) (ji z.po)).setCell (ja p9 2) (ji z.rg.ep)).setCell (ja p9 3) (ji z.rg.ow)).setCell (ja p9 4) (ji z.rg.pa)).setCell (ja p9 5) (.slice z.aT z.two.length z.cT)).setCell (ja p9 6) (.slice z.aN z.net.length z.cN)).setCell (ja p9 7) (.slice z.aG z.ga.length z.cG)).setCell (ja p9 8) (.slice z.aL z.ln.length z.cL)).setCell (ja p9 9) (.slice z.aS z.sd.length z.cS)) := by
 have h7 := h.h7;have h9 := h.h9;have kp : ∀ k, k ≠ p9 → ((((((((((W.setCell (ja p9 0) (ji z.id)).setCell (ja p9 1) (ji z.po)).setCell (ja p9 2) (ji z.rg.ep)).setCell (ja p9 3) (ji z.rg.ow)).setCell (ja p9 4) (ji z.rg.pa)).setCell (ja p9 5) (.slice z.aT z.two.length z.cT)).setCell (ja p9 6) (.slice z.aN z.net.length z.cN)).setCell (ja p9 7) (.slice z.aG z.ga.length z.cG)).setCell (ja p9 8) (.slice z.aL z.ln.length z.cL)).setCell (ja p9 9) (.slice z.aS z.sd.length z.cS)).heap[k]? = W.heap[k]? := fun k hk => Ax W p9 k z hk
 exact ⟨h.D.put10_ z (by omega) hcb, h.Z4.keep (kp _ (by omega)), h.Z6.keep (kp _ (by omega)), h.A7.keep (kp _ (by omega)), h.A9.put z, (hz.keep (fun g a _ => kp g (by omega))).base (by omega), h7, h9⟩
def Jw (w : World) (cb : Nat) (ad : Option Addr) (len cap : Nat) (f : Nat → Int) (e : Ending) (w' : World) : Prop :=
 ∃ (s x : AG) (v : Value), e = .returned (.tuple #[.agg (bc s), v, .agg (bc x)]) ∧ AX x.p = true ∧ AO w.heap.size w' x ∧ BN w' cb ad len cap f ∧ w.grownBy w' (some cb)
def Kj (w : World) (cb : Nat) (ad : Option Addr) (len cap : Nat) (f : Nat → Int) (e : Ending) (w' : World) : Prop :=
 ∃ x : AG, e = .returned (.agg (bc x)) ∧ AX x.p = true ∧ AO w.heap.size w' x ∧ BN w' cb ad len cap f ∧ w.grownBy w' (some cb)
structure DY (w : World) (q : Nat) (d : De) : Prop where
 at_ : CI w q d
 fr : ∀ i, w.frozen? (ja q i) = false
theorem DY.keep {w w' : World} {q : Nat} {d : De} (h : DY w q d) (k : w'.heap[q]? = w.heap[q]?) : DY w' q d := ⟨h.at_.keep k, fun i => (World.frozen?_of_block (a := (ja q i)) k).trans (h.fr i)⟩
theorem DY.lt {w : World} {q : Nat} {d : De} (h : DY w q d) : q < w.heap.size := h.at_.lt
def Ki (w : World) (cb : Nat) (ad : Option Addr) (len cap : Nat) (f : Nat → Int) (e : Ending) (w' : World) : Prop := ∃ d : De, e = .returned (.agg #[ji d.k, ji d.a, ji d.x.k, ji d.x.q, ji d.x.r, ji d.x.c, ji d.x.b, ji d.x.p, ji d.x.h, .bool d.x.up]) ∧ BN w' cb ad len cap f ∧ w.grownBy w' (some cb)
theorem JL (x : AG) {cb : Nat} {ad : Option Addr} {len cap : Nat} {f : Nat → Int} (w : World) (hs : BN w cb ad len cap f) (hcb : cb < w.heap.size) (hpo : x.po ≤ 4) (hne : x.net.length ≤ 20) (how : 0 ≤ x.rg.ow ∧ x.rg.ow ≤ 1) :
  Calls prog 148 #[.pointer (some (ja cb 0)), .agg (bc x)] w fun e w' => Ki w cb ad len cap f e w' := by
 obtain ⟨R, hRe⟩ := AB w.heap.size;have hR : w.heap.size ≤ R := by omega
 have hRc : R ≠ cb := by omega
 have hRd : R + 1 ≠ cb := by omega
 obtain ⟨x0, hx0⟩ := AB ((w.alloc (Obj.cells (bc x) 34)).alloc (Obj.cells #[ji 0, ji 0, ji 0, ji 0, ji 0, ji 0, ji 0, ji 0, ji 0, .bool false] 178));have D : DV w cb ad len cap x0 := by rw [hx0]; exact ((DV.start hs).alloc _).alloc _
 have A : AZ x0 R x := by rw [hx0, hRe]; constructor <;> simp [go_sem]
 have B : DY x0 (R + 1) ⟨0, 0, Ao⟩ := by rw [hx0, hRe]; refine ⟨?_, fun i => ?_⟩; constructor <;> simp [go_sem, Ao]; simp [go_sem]
 go_enter func148, ntmps148
 have a0 := A.all;go_wp2_with fail
 go_at_call 38
 rw [← hx0, ← hRe];clear a0 hx0 hRe;refine (Bz (D.src hs) 2 (by decide) (by decide)).mono ?_;rintro e w1 ⟨a, rfl, a0_, a1_, s_, g_⟩;have D := D.step s_ g_;have A := A.keep (g_.block _ A.lt (by simp; omega));have B := B.keep (g_.block _ B.lt (by simp; omega));clear s_ g_;go_wp2_with fail
 go_at_call 38
 refine (Bz (D.src hs) 18 (by decide) (by decide)).mono ?_;rintro e w2 ⟨t, rfl, t0_, t1_, s_, g_⟩;have D := D.step s_ g_;have A := A.keep (g_.block _ A.lt (by simp; omega));have B := B.keep (g_.block _ B.lt (by simp; omega));clear s_ g_;by_cases e0 : t = 0
 focus
  subst e0
 rotate_left;focus
  have d0 : (t == 0) = false := by simpa using e0
  replace e0 : Hid (¬ t = 0) := e0;by_cases e1 : t = 1
  focus
   subst e1
  rotate_left;focus
   have d1 : (t == 1) = false := by simpa using e1
   replace e1 : Hid (¬ t = 1) := e1;by_cases e2 : t = 2
   focus
    subst e2
   rotate_left
   ·
    have d2 : (t == 2) = false := by simpa using e2
    replace e2 : Hid (¬ t = 2) := e2;by_cases e3 : t = 3
    focus
     subst e3
    rotate_left;focus
     have d3 : (t == 3) = false := by simpa using e3
     replace e3 : Hid (¬ t = 3) := e3;by_cases e4 : t = 4
     focus
      subst e4
     rotate_left;focus
      have d4 : (t == 4) = false := by simpa using e4
      replace e4 : Hid (¬ t = 4) := e4;by_cases e5 : t = 5
      focus
       subst e5
      rotate_left
      ·
       have d5 : (t == 5) = false := by simpa using e5
       replace e5 : Hid (¬ t = 5) := e5;by_cases e6 : t = 6
       focus
        subst e6
       rotate_left;focus
        have d6 : (t == 6) = false := by simpa using e6
        replace e6 : Hid (¬ t = 6) := e6;by_cases e7 : t = 7
        focus
         subst e7
        rotate_left;focus
         have d7 : (t == 7) = false := by simpa using e7
         replace e7 : Hid (¬ t = 7) := e7;by_cases e8 : t = 8
         focus
          subst e8
         rotate_left;focus
          have d8 : (t == 8) = false := by simpa using e8
          replace e8 : Hid (¬ t = 8) := e8;by_cases e9 : t = 9
          focus
           subst e9
          rotate_left
          ·
           have d9 : (t == 9) = false := by simpa using e9
           replace e9 : Hid (¬ t = 9) := e9;by_cases e10 : t = 10
           focus
            subst e10
           rotate_left;focus
            have d10 : (t == 10) = false := by simpa using e10
            replace e10 : Hid (¬ t = 10) := e10;by_cases e11 : t = 11
            focus
             subst e11
            rotate_left
            ·
             have d11 : (t == 11) = false := by simpa using e11
             replace e11 : Hid (¬ t = 11) := e11;by_cases e12 : t = 12
             ·
              subst e12;have DZ := ED D (N := R + 1) (by omega) hcb (ji 10) (ji x.rg.ow) (ji 0) (ji 0) (ji 0) (ji 0) (ji 0) (ji 0) (ji 0) (.bool false);clear D A;obtain ⟨⟨q0, q1, q2, q3, q4, q5, q6, q7, q8, q9⟩, qf⟩ := B;obtain ⟨f0, f1, f2, f3, f4, f5, f6, f7, f8, f9⟩ := Cj qf;clear qf;go_wp2
              refine bodyPost_ret (v := .agg #[ji 10, ji x.rg.ow, ji 0, ji 0, ji 0, ji 0, ji 0, ji 0, ji 0, .bool false]) (by simp [results, results148, go_sem, *]) rfl ⟨⟨10, x.rg.ow, Ao⟩, rfl, DZ.src hs, DZ.gr⟩
             ·
              have d12 : (t == 12) = false := by simpa using e12
              replace e12 : Hid (¬ t = 12) := e12;by_cases e13 : t = 13
              ·
               subst e13;obtain ⟨w3, hw3⟩ := AB (w2.alloc (Obj.cells #[ji 4, ji 5, ji 11] 3));go_wp2_with fail
               go_at_call 41
               rw [← hw3];have kq : Bw w2 w3 := by rw [hw3]; exact Al _
               have lA := A.lt;have lB := B.lt;have lc := D.cur.lt;have hg : ∀ i, i < 3 → w3.cell? (ja w2.heap.size i) = some (ji (([4, 5, 11] : List Int).getD i 0)) := fun i hi => by rw [hw3]; rcases (by omega : i = 0 ∨ i = 1 ∨ i = 2) with rfl | rfl | rfl <;> simp [go_sem]
               have D := D.later8 kq;have A := A.keep (kq.block _ lA);have B := B.keep (kq.block _ lB);clear hw3 kq;refine (H0 (D.src hs) w2.heap.size 3 3 (fun i => ([4, 5, 11] : List Int).getD i 0) (by omega) (by decide) (by decide) hg).mono ?_;rintro e w5 ⟨i, _, rfl, s_, g_⟩;obtain ⟨kd, hkd⟩ := AB (([4, 5, 11] : List Int).getD i 0);dsimp only
               rw [← hkd];clear hkd hg;have D := D.step s_ g_;have A := A.keep (g_.block _ A.lt (by simp; omega));have B := B.keep (g_.block _ B.lt (by simp; omega));clear s_ g_;have DZ := ED D (N := R + 1) (by omega) hcb (ji kd) (ji x.rg.ow) (ji 0) (ji 0) (ji 0) (ji 0) (ji 0) (ji 0) (ji 0) (.bool false);clear D A;obtain ⟨⟨q0, q1, q2, q3, q4, q5, q6, q7, q8, q9⟩, qf⟩ := B;obtain ⟨f0, f1, f2, f3, f4, f5, f6, f7, f8, f9⟩ := Cj qf;clear qf;go_wp2
               refine bodyPost_ret (v := .agg #[ji kd, ji x.rg.ow, ji 0, ji 0, ji 0, ji 0, ji 0, ji 0, ji 0, .bool false]) (by simp [results, results148, go_sem, *]) rfl ⟨⟨kd, x.rg.ow, Ao⟩, rfl, DZ.src hs, DZ.gr⟩
              ·
               have d13 : (t == 13) = false := by simpa using e13
               replace e13 : Hid (¬ t = 13) := e13;by_cases e14 : t = 14
               ·
                subst e14;have DZ := ED D (N := R + 1) (by omega) hcb (ji 7) (ji a) (ji 0) (ji 0) (ji 0) (ji 0) (ji 0) (ji 0) (ji 0) (.bool false);clear D A;obtain ⟨⟨q0, q1, q2, q3, q4, q5, q6, q7, q8, q9⟩, qf⟩ := B;obtain ⟨f0, f1, f2, f3, f4, f5, f6, f7, f8, f9⟩ := Cj qf;clear qf;go_wp2
                refine bodyPost_ret (v := .agg #[ji 7, ji a, ji 0, ji 0, ji 0, ji 0, ji 0, ji 0, ji 0, .bool false]) (by simp [results, results148, go_sem, *]) rfl ⟨⟨7, a, Ao⟩, rfl, DZ.src hs, DZ.gr⟩
               ·
                have d14 : (t == 14) = false := by simpa using e14
                replace e14 : Hid (¬ t = 14) := e14;by_cases e15 : t = 15
                ·
                 subst e15;have DZ := ED D (N := R + 1) (by omega) hcb (ji 8) (ji a) (ji 0) (ji 0) (ji 0) (ji 0) (ji 0) (ji 0) (ji 0) (.bool false);clear D A;obtain ⟨⟨q0, q1, q2, q3, q4, q5, q6, q7, q8, q9⟩, qf⟩ := B;obtain ⟨f0, f1, f2, f3, f4, f5, f6, f7, f8, f9⟩ := Cj qf;clear qf;go_wp2
                 refine bodyPost_ret (v := .agg #[ji 8, ji a, ji 0, ji 0, ji 0, ji 0, ji 0, ji 0, ji 0, .bool false]) (by simp [results, results148, go_sem, *]) rfl ⟨⟨8, a, Ao⟩, rfl, DZ.src hs, DZ.gr⟩
                ·
                 have d15 : (t == 15) = false := by simpa using e15
                 replace e15 : Hid (¬ t = 15) := e15;by_cases e16 : t = 16
                 ·
                  subst e16;have hwr : IntKind.i64.wrap (1 - x.rg.ow) = 1 - x.rg.ow := by rw [IntKind.wrap_i64]; omega
                  have DZ := ED D (N := R + 1) (by omega) hcb (ji 9) (ji (1 - x.rg.ow)) (ji 0) (ji 0) (ji 0) (ji 0) (ji 0) (ji 0) (ji 0) (.bool false);clear D A;obtain ⟨⟨q0, q1, q2, q3, q4, q5, q6, q7, q8, q9⟩, qf⟩ := B;obtain ⟨f0, f1, f2, f3, f4, f5, f6, f7, f8, f9⟩ := Cj qf;clear qf;go_wp2
                  refine bodyPost_ret (v := .agg #[ji 9, ji (1 - x.rg.ow), ji 0, ji 0, ji 0, ji 0, ji 0, ji 0, ji 0, .bool false]) (by simp [results, results148, go_sem, *]) rfl ⟨⟨9, (1 - x.rg.ow), Ao⟩, rfl, DZ.src hs, DZ.gr⟩
                 ·
                  have d16 : (t == 16) = false := by simpa using e16
                  replace e16 : Hid (¬ t = 16) := e16;have DZ := ED D (N := R + 1) (by omega) hcb (ji 12) (ji a) (ji 0) (ji 0) (ji 0) (ji 0) (ji 0) (ji 0) (ji 0) (.bool false);clear D A;obtain ⟨⟨q0, q1, q2, q3, q4, q5, q6, q7, q8, q9⟩, qf⟩ := B;obtain ⟨f0, f1, f2, f3, f4, f5, f6, f7, f8, f9⟩ := Cj qf;clear qf;go_wp2
                  refine bodyPost_ret (v := .agg #[ji 12, ji a, ji 0, ji 0, ji 0, ji 0, ji 0, ji 0, ji 0, .bool false]) (by simp [results, results148, go_sem, *]) rfl ⟨⟨12, a, Ao⟩, rfl, DZ.src hs, DZ.gr⟩
           rotate_left;all_goals
            have DZ := ED D (N := R + 1) (by omega) hcb (ji 6) (ji 0) (ji 0) (ji 0) (ji 0) (ji 0) (ji 0) (ji 0) (ji 0) (.bool false);clear D A;obtain ⟨⟨q0, q1, q2, q3, q4, q5, q6, q7, q8, q9⟩, qf⟩ := B;obtain ⟨f0, f1, f2, f3, f4, f5, f6, f7, f8, f9⟩ := Cj qf;clear qf;go_wp2
            refine bodyPost_ret (v := .agg #[ji 6, ji 0, ji 0, ji 0, ji 0, ji 0, ji 0, ji 0, ji 0, .bool false]) (by simp [results, results148, go_sem, *]) rfl ⟨⟨6, 0, Ao⟩, rfl, DZ.src hs, DZ.gr⟩
         rotate_left
        rotate_left 2
       rotate_left 3;all_goals
        have a0 := A.all;go_wp2_with fail
        go_at_call 173
        clear a0;refine (G6 (x.net.length : Int) 1 _).mono ?_;rintro e u9 ⟨rfl, hw_⟩;rw [hw_];clear hw_ u9;obtain ⟨mx, hmx⟩ : ∃ t : Int, t = if 1 < (x.net.length : Int) then (x.net.length : Int) else 1 := ⟨_, rfl⟩
        rw [← hmx];have mx0 : 0 < mx := by rw [hmx]; split <;> omega
        have mx1 : mx ≤ 256 := by rw [hmx]; split <;> omega
        clear hmx;go_wp2_with fail
        go_at_call 38
        refine (Bz (D.src hs) mx mx0 mx1).mono ?_;rintro e w5 ⟨pt, rfl, _, _, s_, g_⟩;have D := D.step s_ g_;have A := A.keep (g_.block _ A.lt (by simp; omega));have B := B.keep (g_.block _ B.lt (by simp; omega));clear s_ g_;have DZ := ED D (N := R + 1) (by omega) hcb (ji 3) (ji pt) (ji 0) (ji 0) (ji 0) (ji 0) (ji 0) (ji 0) (ji 0) (.bool false);clear D A;obtain ⟨⟨q0, q1, q2, q3, q4, q5, q6, q7, q8, q9⟩, qf⟩ := B;obtain ⟨f0, f1, f2, f3, f4, f5, f6, f7, f8, f9⟩ := Cj qf;clear qf;go_wp2
        refine bodyPost_ret (v := .agg #[ji 3, ji pt, ji 0, ji 0, ji 0, ji 0, ji 0, ji 0, ji 0, .bool false]) (by simp [results, results148, go_sem, *]) rfl ⟨⟨3, pt, Ao⟩, rfl, DZ.src hs, DZ.gr⟩
     rotate_left
    rotate_left 2;all_goals
     have DZ := ED D (N := R + 1) (by omega) hcb (ji 2) (ji x.rg.ow) (ji 0) (ji 0) (ji 0) (ji 0) (ji 0) (ji 0) (ji 0) (.bool false);clear D A;obtain ⟨⟨q0, q1, q2, q3, q4, q5, q6, q7, q8, q9⟩, qf⟩ := B;obtain ⟨f0, f1, f2, f3, f4, f5, f6, f7, f8, f9⟩ := Cj qf;clear qf;go_wp2
     refine bodyPost_ret (v := .agg #[ji 2, ji x.rg.ow, ji 0, ji 0, ji 0, ji 0, ji 0, ji 0, ji 0, .bool false]) (by simp [results, results148, go_sem, *]) rfl ⟨⟨2, x.rg.ow, Ao⟩, rfl, DZ.src hs, DZ.gr⟩
  rotate_left
 rotate_left 2;all_goals
  go_wp2_with fail
  go_at_call 88
  refine (KR _ (D.src hs) D.cur.lt).mono ?_;rintro e w3 ⟨v, rfl, s_, g_⟩;have D := D.step s_ g_;have A := A.keep (g_.block _ A.lt (by simp; omega));have B := B.keep (g_.block _ B.lt (by simp; omega));clear s_ g_;obtain ⟨vk, vq, vr, vc, vb, vp, vh, vu⟩ := v;dsimp only
  go_upto_region 8 with fail
  obtain ⟨w4, hw4, kq⟩ := AI w3 (Obj.cells #[ji vk, ji vq, ji vr, ji vc, ji vb, ji vp, ji vh, .bool vu] 64);rw [← hw4];have I : Cf w4 w3.heap.size ⟨vk, vq, vr, vc, vb, vp, vh, vu⟩ := by rw [hw4]; exact ⟨A8.new w3 _ ⟨vk, vq, vr, vc, vb, vp, vh, vu⟩, fun i => by simp [go_sem]⟩
  have lA := A.lt;have lB := B.lt;have lc := D.cur.lt;have lw := D.gr.size;have D := D.later8 kq;have A := A.keep (kq.block _ lA);have B := B.keep (kq.block _ lB);clear hw4 kq;obtain ⟨q7, hq7⟩ := AB w3.heap.size;rw [← hq7] at I lA lB lc lw ⊢;clear hq7;by_cases hk2 : vk = 2
  ·
   have dk : (vk != 2) = false := by simpa using hk2
   replace hk2 : Hid _ := hk2;obtain ⟨⟨i0, i1, i2, i3, i4, i5, i6, i7⟩, if_⟩ := I;clear if_;have DZ := ED D (N := R + 1) (by omega) hcb (ji 1) (ji 0) (ji (⟨vk, vq, vr, vc, vb, vp, vh, vu⟩ : Ik).k) (ji (⟨vk, vq, vr, vc, vb, vp, vh, vu⟩ : Ik).q) (ji (⟨vk, vq, vr, vc, vb, vp, vh, vu⟩ : Ik).r) (ji (⟨vk, vq, vr, vc, vb, vp, vh, vu⟩ : Ik).c) (ji (⟨vk, vq, vr, vc, vb, vp, vh, vu⟩ : Ik).b) (ji (⟨vk, vq, vr, vc, vb, vp, vh, vu⟩ : Ik).p) (ji (⟨vk, vq, vr, vc, vb, vp, vh, vu⟩ : Ik).h) (.bool (⟨vk, vq, vr, vc, vb, vp, vh, vu⟩ : Ik).up);clear D A;obtain ⟨⟨q0, q1, q2, q3, q4, q5, q6, q7, q8, q9⟩, qf⟩ := B;obtain ⟨f0, f1, f2, f3, f4, f5, f6, f7, f8, f9⟩ := Cj qf;clear qf;go_wp2
   refine bodyPost_ret (v := .agg #[ji 1, ji 0, ji (⟨vk, vq, vr, vc, vb, vp, vh, vu⟩ : Ik).k, ji (⟨vk, vq, vr, vc, vb, vp, vh, vu⟩ : Ik).q, ji (⟨vk, vq, vr, vc, vb, vp, vh, vu⟩ : Ik).r, ji (⟨vk, vq, vr, vc, vb, vp, vh, vu⟩ : Ik).c, ji (⟨vk, vq, vr, vc, vb, vp, vh, vu⟩ : Ik).b, ji (⟨vk, vq, vr, vc, vb, vp, vh, vu⟩ : Ik).p, ji (⟨vk, vq, vr, vc, vb, vp, vh, vu⟩ : Ik).h, .bool (⟨vk, vq, vr, vc, vb, vp, vh, vu⟩ : Ik).up]) (by simp [results, results148, go_sem, *]) rfl ⟨⟨1, 0, (⟨vk, vq, vr, vc, vb, vp, vh, vu⟩ : Ik)⟩, rfl, DZ.src hs, DZ.gr⟩
  ·
   have dk : (vk != 2) = true := by simpa using hk2
   replace hk2 : Hid (¬ vk = 2) := hk2;have a0 := A.all;have i0 := I.at_.c0;go_wp2_with fail
   go_at_call 173
   clear a0 i0;refine (G6 x.po 1 w4).mono ?_;rintro e u9 ⟨rfl, hw_⟩;rw [hw_];clear hw_ u9;obtain ⟨mx, hmx⟩ : ∃ t : Int, t = if 1 < x.po then x.po else 1 := ⟨_, rfl⟩
   rw [← hmx];have mx0 : 0 < mx := by rw [hmx]; split <;> omega
   have mx1 : mx ≤ 256 := by rw [hmx]; split <;> omega
   clear hmx;go_wp2_with fail
   go_at_call 38
   refine (Bz (D.src hs) mx mx0 mx1).mono ?_;rintro e w5 ⟨pt, rfl, _, _, s_, g_⟩;have D := D.step s_ g_;have A := A.keep (g_.block _ A.lt (by simp; omega));have B := B.keep (g_.block _ B.lt (by simp; omega));have I := I.grown g_ (by omega);clear s_ g_;obtain ⟨⟨i0, i1, i2, i3, i4, i5, i6, i7⟩, if_⟩ := I;have if1 := if_ 1;clear if_;go_upto_region 10 with fail
   obtain ⟨w6, hw6⟩ := AB (w5.setCell (ja q7 1) (ji pt));rw [← hw6];have kp : ∀ g_, g_ ≠ q7 → w6.heap[g_]? = w5.heap[g_]? := fun g_ hg => by rw [hw6]; exact AE hg
   have A := A.keep (kp _ (by omega));have B := B.keep (kp _ (by omega));have D : DV w cb ad len cap w6 := by rw [hw6]; exact D.set (N := q7) (by omega) hcb _
   have i0 : w6.cell? (ja q7 0) = some (ji vk) := by rw [hw6]; exact (AC (by decide)).trans i0
   have i1 : w6.cell? (ja q7 1) = some (ji pt) := by rw [hw6]; exact Aj i1
   have i2 : w6.cell? (ja q7 2) = some (ji vr) := by rw [hw6]; exact (AC (by decide)).trans i2
   have i3 : w6.cell? (ja q7 3) = some (ji vc) := by rw [hw6]; exact (AC (by decide)).trans i3
   have i4 : w6.cell? (ja q7 4) = some (ji vb) := by rw [hw6]; exact (AC (by decide)).trans i4
   have i5 : w6.cell? (ja q7 5) = some (ji vp) := by rw [hw6]; exact (AC (by decide)).trans i5
   have i6 : w6.cell? (ja q7 6) = some (ji vh) := by rw [hw6]; exact (AC (by decide)).trans i6
   have i7 : w6.cell? (ja q7 7) = some (.bool vu) := by rw [hw6]; exact (AC (by decide)).trans i7
   clear hw6 kp if1;have DZ := ED D (N := R + 1) (by omega) hcb (ji 1) (ji 0) (ji (⟨vk, pt, vr, vc, vb, vp, vh, vu⟩ : Ik).k) (ji (⟨vk, pt, vr, vc, vb, vp, vh, vu⟩ : Ik).q) (ji (⟨vk, pt, vr, vc, vb, vp, vh, vu⟩ : Ik).r) (ji (⟨vk, pt, vr, vc, vb, vp, vh, vu⟩ : Ik).c) (ji (⟨vk, pt, vr, vc, vb, vp, vh, vu⟩ : Ik).b) (ji (⟨vk, pt, vr, vc, vb, vp, vh, vu⟩ : Ik).p) (ji (⟨vk, pt, vr, vc, vb, vp, vh, vu⟩ : Ik).h) (.bool (⟨vk, pt, vr, vc, vb, vp, vh, vu⟩ : Ik).up);clear D A;obtain ⟨⟨q0, q1, q2, q3, q4, q5, q6, q7, q8, q9⟩, qf⟩ := B;obtain ⟨f0, f1, f2, f3, f4, f5, f6, f7, f8, f9⟩ := Cj qf;clear qf;go_wp2
   refine bodyPost_ret (v := .agg #[ji 1, ji 0, ji (⟨vk, pt, vr, vc, vb, vp, vh, vu⟩ : Ik).k, ji (⟨vk, pt, vr, vc, vb, vp, vh, vu⟩ : Ik).q, ji (⟨vk, pt, vr, vc, vb, vp, vh, vu⟩ : Ik).r, ji (⟨vk, pt, vr, vc, vb, vp, vh, vu⟩ : Ik).c, ji (⟨vk, pt, vr, vc, vb, vp, vh, vu⟩ : Ik).b, ji (⟨vk, pt, vr, vc, vb, vp, vh, vu⟩ : Ik).p, ji (⟨vk, pt, vr, vc, vb, vp, vh, vu⟩ : Ik).h, .bool (⟨vk, pt, vr, vc, vb, vp, vh, vu⟩ : Ik).up]) (by simp [results, results148, go_sem, *]) rfl ⟨⟨1, 0, (⟨vk, pt, vr, vc, vb, vp, vh, vu⟩ : Ik)⟩, rfl, DZ.src hs, DZ.gr⟩
attribute [local go_sem] mc ic
theorem Kw (m : Mi) (ad : Option Addr) (cap : Nat) (w : World) (hv : AH AS w ad m.lg) (hl : m.lg.length ≤ 1048577) : Calls prog 50 #[.agg #[.bool m.up, ji m.li, ji m.ep, .slice ad m.lg.length cap, ji m.sd, ji m.ac, ji m.al]] w fun e w' => e = .returned (.bool (!Aq m)) ∧ Bw w w' := by
 obtain ⟨y, hy, B0⟩ := AI w (Obj.cells (mc m ad cap) 52);obtain ⟨o, ho⟩ := AB (Aq m);rw [← ho];replace ho : Hid _ := ho;go_enter func50, ntmps50
 go_wp2_with fail
 go_at_call 71
 rw [← hy];clear hy;refine (IM m ad cap y (hv.below B0 (hv.lt Aa (by omega))) hl).mono ?_;rintro e w1 ⟨rfl, k1⟩;have B1 := AA B0 k1;rw [← ho.out];go_wp2
 go_ret
 exact ⟨rfl, B1⟩
theorem Kx (x : Ik) (w : World) : Calls prog 54 #[.agg #[ji x.k, ji x.q, ji x.r, ji x.c, ji x.b, ji x.p, ji x.h, .bool x.up]] w fun e w' => e = .returned (.bool (!Av x)) ∧ Bw w w' := by
 obtain ⟨y, hy, B0⟩ := AI w (Obj.cells (ic x) 64);obtain ⟨o, ho⟩ := AB (Av x);rw [← ho];replace ho : Hid _ := ho;go_enter func54, ntmps54
 go_wp2_with fail
 go_at_call 97
 rw [← hy];clear hy;refine (F6 x y).mono ?_;rintro e w1 ⟨rfl, k1⟩;have B1 := AA B0 k1;rw [← ho.out];go_wp2
 go_ret
 exact ⟨rfl, B1⟩
theorem LQ (x : Ik) (w : World) : (binOp .eql 64 (.agg #[ji x.k, ji x.q, ji x.r, ji x.c, ji x.b, ji x.p, ji x.h, .bool x.up]) (.agg #[ji 0, ji 0, ji 0, ji 0, ji 0, ji 0, ji 0, .bool false])).run prog w = .ok (.bool (Dn x)) w := by
 unfold Dn;go_simp
 all_goals ((repeat' split) <;> first | (simp_all; done) | grind)
theorem KD (x : Wi) (w : World) : Calls prog 95 #[.agg #[ji x.fr, .bool x.ak, ji x.li, ji x.n, ji x.x.k, ji x.x.q, ji x.x.r, ji x.x.c, ji x.x.b, ji x.x.p, ji x.x.h, .bool x.x.up]] w fun e w' => e = .returned (.bool (if x.ak then Dn x.x else Av x.x)) ∧ Bw w w' := by
 obtain ⟨y, hy, B0⟩ := AI w (Obj.cells #[ji x.fr, .bool x.ak, ji x.li, ji x.n, ji x.x.k, ji x.x.q, ji x.x.r, ji x.x.c, ji x.x.b, ji x.x.p, ji x.x.h, .bool x.x.up] 75);have U : Dt y w.heap.size x := by rw [hy]; exact Dt.new w _ x
 have eI := LQ x.x;obtain ⟨R, hR⟩ := AB (if x.ak then Dn x.x else Av x.x);rw [← hR];replace hR : Hid _ := hR;obtain ⟨c0, c1, c2, c3, c4, c5, c6, c7, c8, c9, c10, c11⟩ := U;go_enter func95, ntmps95
 go_upto_region 1 with fail
 rw [← hy];clear hy;cases h : x.ak
 ·
  have hN : Hid (R = Av x.x) := by unfold Hid; rw [hR.out, h]; rfl
  rw [h] at c1;replace h : Hid _ := h;go_wp2_with fail
  go_at_call 97
  refine (F6 x.x y).mono ?_;rintro e u1 ⟨rfl, k1⟩;go_wp2
  go_ret
  exact ⟨by rw [hN.out]; rfl, AA B0 k1⟩
 have hN : Hid (R = Dn x.x) := by unfold Hid; rw [hR.out, h]; rfl
 rw [h] at c1;replace h : Hid _ := h;go_wp2
 go_ret
 exact ⟨by rw [hN.out]; rfl, B0⟩
theorem Kv (x : Wi) (w : World) : Calls prog 52 #[.agg #[ji x.fr, .bool x.ak, ji x.li, ji x.n, ji x.x.k, ji x.x.q, ji x.x.r, ji x.x.c, ji x.x.b, ji x.x.p, ji x.x.h, .bool x.x.up]] w fun e w' => e = .returned (.bool (!BH x)) ∧ Bw w w' := by
 obtain ⟨y, hy, B0⟩ := AI w (Obj.cells #[ji x.fr, .bool x.ak, ji x.li, ji x.n, ji x.x.k, ji x.x.q, ji x.x.r, ji x.x.c, ji x.x.b, ji x.x.p, ji x.x.h, .bool x.x.up] 75);have U : Dt y w.heap.size x := by rw [hy]; exact Dt.new w _ x
 obtain ⟨R, hR⟩ := AB (!BH x);rw [← hR];replace hR : Hid _ := hR;replace U := U.all;go_enter func52, ntmps52
 go_upto_region 1 with fail
 rw [← hy];clear hy;by_cases e1 : x.fr = 0
 focus
  have d1 : (x.fr == 0) = true := by simpa using e1
  have b1 : (x.fr != 0) = false := by simpa using e1
  have hfr : Hid (decide (0 ≤ x.fr ∧ x.fr ≤ 1) = true) := decide_eq_true (by omega);replace e1 : Hid _ := e1
 rotate_left;focus
  have d1 : (x.fr == 0) = false := by simpa using e1
  have b1 : (x.fr != 0) = true := by simpa using e1
  by_cases e2 : x.fr = 1
  focus
   have d2 : (x.fr == 1) = true := by simpa using e2
   have b2 : (x.fr != 1) = false := by simpa using e2
   have hfr : Hid (decide (0 ≤ x.fr ∧ x.fr ≤ 1) = true) := decide_eq_true (by omega);replace e1 : Hid _ := e1;replace e2 : Hid _ := e2
  rotate_left
  ·
   have d2 : (x.fr == 1) = false := by simpa using e2
   have b2 : (x.fr != 1) = true := by simpa using e2
   have hN : Hid (R = true) := by unfold Hid; rw [hR.out]; unfold BH; rw [decide_eq_false (show ¬ (0 ≤ x.fr ∧ x.fr ≤ 1) by omega)]; rfl
   replace e1 : Hid _ := e1;replace e2 : Hid _ := e2;go_wp2
   go_ret
   exact ⟨by rw [hN.out]; rfl, B0⟩
 rotate_left;all_goals
  go_wp2_with fail
  go_at_call 92
  refine (Ez x.li y).mono ?_;rintro e w1 ⟨rfl, hw_⟩;rw [hw_];clear hw_;cases h1 : Be x.li
  ·
   have hN : Hid (R = true) := by unfold Hid; rw [hR.out]; unfold BH; rw [hfr.out, h1]; rfl
   clear h1;go_wp2
   go_ret
   exact ⟨by rw [hN.out]; rfl, B0⟩
  ·
   replace h1 : Hid _ := h1;go_wp2_with fail
   go_at_call 92
   refine (Ez x.n y).mono ?_;rintro e w1 ⟨rfl, hw_⟩;rw [hw_];clear hw_;cases h2 : Be x.n
   ·
    have hN : Hid (R = true) := by unfold Hid; rw [hR.out]; unfold BH; rw [hfr.out, h1.out, h2]; rfl
    clear h2;go_wp2
    go_ret
    exact ⟨by rw [hN.out]; rfl, B0⟩
   ·
    replace h2 : Hid _ := h2;have hN : Hid (R = !(if x.ak then Dn x.x else Av x.x)) := by unfold Hid; rw [hR.out]; unfold BH; rw [hfr.out, h1.out, h2.out]; rfl
    go_wp2_with fail
    go_at_call 95
    refine (KD x y).mono ?_;rintro e u1 ⟨rfl, k1⟩;obtain ⟨o, ho⟩ := AB (if x.ak then Dn x.x else Av x.x);rw [← ho] at hN ⊢;clear ho;go_wp2
    go_ret
    exact ⟨by rw [hN.out]; rfl, AA B0 k1⟩
end Go.Proofs.YthgcbihhdbpbdaaGreat
namespace Go.Proofs.YthgcbihhdbpbdaaGreat
open Go.ChangeShapes Go.WideShapes Go.ChangeAt Go.RowKit
open Go.ChangeMaps (open_string shut_string)
set_option linter.unusedVariables false
set_option maxRecDepth 100000
set_option maxHeartbeats 32000000
set_option linter.unusedSimpArgs false
open Go.Proofs.Tryz
theorem Gd {X : Type} {p : X → Bool} {L : List X} (d : X) {k : Nat} (h : k < L.length) (hq : p (L.getD k d) = false) : L.all p = false := by
 rw [Bool.eq_false_iff];intro e;have := List.all_eq_true.1 e (L.getD k d) (by simp [List.getD, h]);rw [hq] at this;cases this
theorem GY {X : Type} {p : X → Bool} {L : List X} (d : X) (h : ∀ j, j < L.length → p (L.getD j d) = true) : L.all p = true := by
 rw [List.all_eq_true];intro x hx;obtain ⟨i, hi, rfl⟩ := List.mem_iff_getElem.1 hx;have := h i hi;rwa [show L.getD i d = L[i] by simp [List.getD, hi]] at this
theorem LH (ad : Option Addr) (cap : Nat) (L : List AF) (w : World) (hv : AH BI w ad L) (hl : L.length ≤ 1048576) (hn : ∀ i, i < L.length → AH AS w (L.getD i AF.nil).ad (L.getD i AF.nil).m.lg) (hm : ∀ i, i < L.length → (L.getD i AF.nil).m.lg.length ≤ 1048576) :
  Calls prog 93 #[.slice ad L.length cap, .func (Fn.func 50) #[] #[]] w fun e w' => (∃ r : Int, e = .returned (ji r) ∧ (decide (0 ≤ r) = !L.all (fun d => Aq d.m)) ∧ r ≤ 1048576 ∧ -1 ≤ r) ∧ Bw w w' := by
 have hB := hv.lt Au (by omega);go_enter func93, ntmps93
 go_wp2
 go_loopw [8] (fun i wr => ∃ k : Nat, i = .int .i64 (k : Int) ∧ k ≤ L.length ∧ Hid (∀ j, j < k → (fun d => Aq d.m) (L.getD j AF.nil) = true) ∧ Below w.heap.size w wr) (fun i _ => L.length - (intOf i).toNat)
 case atStart => exact ⟨0, rfl, Nat.zero_le _, fun j hj => absurd hj (by omega), Below.refl _ _⟩
 case round =>
  obtain ⟨k, rfl, hk, hF, hb⟩ := hrel;by_cases hlt : k < L.length
  ·
   obtain ⟨b, off, rfl, _⟩ := hv (by omega);obtain ⟨h, hh⟩ : ∃ h, L.getD k AF.nil = h := ⟨_, rfl⟩;have hck : BE wr b (off + k * 7) h := by
    rw [← hh];exact CJ ((hv.below hb hB).at_ Au AF.nil hlt)
   have hvw : AH AS wr h.ad h.m.lg := by rw [← hh]; exact (hn k hlt).below hb ((hn k hlt).lt Aa (by omega))
   have hlw : h.m.lg.length ≤ 1048577 := by rw [← hh]; exact Nat.le_trans (hm k hlt) (by omega)
   clear hn hm;replace hck := hck.all;replace hh : Hid _ := hh;clear hB hv;go_wp2_with fail
   go_at_call 50
   refine (Kw h.m h.ad h.cap wr hvw hlw).mono ?_;rintro e w3 ⟨rfl, k3⟩;have b3 := AA hb k3;by_cases hq : Aq h.m = true
   ·
    rw [hq];go_wp2
    go_roundw
    case rel =>
     refine ⟨k + 1, by go_num, by omega, fun j hj => ?_, b3⟩;by_cases e : j = k
     ·
      rw [e, hh.out]; exact hq
     exact hF.out j (by omega)
    case measure => simp [intOf]; omega
   have hq' : Aq h.m = false := by simpa using hq
   rw [hq'];go_wp2
   go_ret
   refine ⟨⟨k, rfl, ?_, by omega, by omega⟩, b3⟩;rw [Gd AF.nil hlt (by rw [hh.out]; exact hq')];simp
  obtain rfl : k = L.length := by omega
  go_wp2
  go_ret
  refine ⟨⟨-1, rfl, ?_, by omega, by omega⟩, hb⟩;rw [GY AF.nil hF.out];rfl
theorem KX (ad : Option Addr) (cap : Nat) (L : List AF) (w : World) (hv : AH BI w ad L) (hl : L.length ≤ 1048576) (hn : ∀ i, i < L.length → AH AS w (L.getD i AF.nil).ad (L.getD i AF.nil).m.lg) (hm : ∀ i, i < L.length → (L.getD i AF.nil).m.lg.length ≤ 1048576) :
  Calls prog 49 #[.slice ad L.length cap, .func (Fn.func 50) #[] #[]] w fun e w' => e = .returned (.bool (!L.all (fun d => Aq d.m))) ∧ Bw w w' := by
 have hI := LH ad cap L w hv hl hn hm;generalize (!L.all (fun d => Aq d.m)) = B at *
 go_enter func49, ntmps49
 go_wp2_with fail
 go_at_call 93
 refine hI.mono ?_;rintro e w1 ⟨⟨r, rfl, hr, r1, r2⟩, k1⟩;go_wp2
 go_ret
 exact ⟨rfl, k1⟩
theorem LG (ad : Option Addr) (cap : Nat) (L : List Wi) (w : World) (hv : AH BA w ad L) (hl : L.length ≤ 1048576) :
  Calls prog 94 #[.slice ad L.length cap, .func (Fn.func 52) #[] #[]] w fun e w' => (∃ r : Int, e = .returned (ji r) ∧ (decide (0 ≤ r) = !L.all BH) ∧ r ≤ 1048576 ∧ -1 ≤ r) ∧ Bw w w' := by
 have hB := hv.lt CX (by omega);go_enter func94, ntmps94
 go_wp2
 go_loopw [8] (fun i wr => ∃ k : Nat, i = .int .i64 (k : Int) ∧ k ≤ L.length ∧ Hid (∀ j, j < k → BH (L.getD j Wi.nil) = true) ∧ Below w.heap.size w wr) (fun i _ => L.length - (intOf i).toNat)
 case atStart => exact ⟨0, rfl, Nat.zero_le _, fun j hj => absurd hj (by omega), Below.refl _ _⟩
 case round =>
  obtain ⟨k, rfl, hk, hF, hb⟩ := hrel;by_cases hlt : k < L.length
  ·
   obtain ⟨b, off, rfl, _⟩ := hv (by omega);obtain ⟨h, hh⟩ : ∃ h, L.getD k Wi.nil = h := ⟨_, rfl⟩;have hck : Ch wr b (off + k * 12) h := by
    rw [← hh];exact GV ((hv.below hb hB).at_ CX Wi.nil hlt)
   replace hck := hck.all;replace hh : Hid _ := hh;clear hB hv;go_wp2_with fail
   go_at_call 52
   refine (Kv h wr).mono ?_;rintro e w3 ⟨rfl, k3⟩;have b3 := AA hb k3;by_cases hq : BH h = true
   ·
    rw [hq];go_wp2
    go_roundw
    case rel =>
     refine ⟨k + 1, by go_num, by omega, fun j hj => ?_, b3⟩;by_cases e : j = k
     ·
      rw [e, hh.out]; exact hq
     exact hF.out j (by omega)
    case measure => simp [intOf]; omega
   have hq' : BH h = false := by simpa using hq
   rw [hq'];go_wp2
   go_ret
   refine ⟨⟨k, rfl, ?_, by omega, by omega⟩, b3⟩;rw [Gd Wi.nil hlt (by rw [hh.out]; exact hq')];simp
  obtain rfl : k = L.length := by omega
  go_wp2
  go_ret
  refine ⟨⟨-1, rfl, ?_, by omega, by omega⟩, hb⟩;rw [GY Wi.nil hF.out];rfl
theorem KV (ad : Option Addr) (cap : Nat) (L : List Wi) (w : World) (hv : AH BA w ad L) (hl : L.length ≤ 1048576) :
  Calls prog 51 #[.slice ad L.length cap, .func (Fn.func 52) #[] #[]] w fun e w' => e = .returned (.bool (!L.all BH)) ∧ Bw w w' := by
 have hI := LG ad cap L w hv hl;generalize (!L.all BH) = B at *
 go_enter func51, ntmps51
 go_wp2_with fail
 go_at_call 94
 refine hI.mono ?_;rintro e w1 ⟨⟨r, rfl, hr, r1, r2⟩, k1⟩;go_wp2
 go_ret
 exact ⟨rfl, k1⟩
theorem LI (ad : Option Addr) (cap : Nat) (L : List Ik) (w : World) (hv : AH AS w ad L) (hl : L.length ≤ 1048576) :
  Calls prog 96 #[.slice ad L.length cap, .func (Fn.func 54) #[] #[]] w fun e w' => (∃ r : Int, e = .returned (ji r) ∧ (decide (0 ≤ r) = !L.all Av) ∧ r ≤ 1048576 ∧ -1 ≤ r) ∧ Bw w w' := by
 have hB := hv.lt Aa (by omega);go_enter func96, ntmps96
 go_wp2
 go_loopw [8] (fun i wr => ∃ k : Nat, i = .int .i64 (k : Int) ∧ k ≤ L.length ∧ Hid (∀ j, j < k → Av (L.getD j Ik.nil) = true) ∧ Below w.heap.size w wr) (fun i _ => L.length - (intOf i).toNat)
 case atStart => exact ⟨0, rfl, Nat.zero_le _, fun j hj => absurd hj (by omega), Below.refl _ _⟩
 case round =>
  obtain ⟨k, rfl, hk, hF, hb⟩ := hrel;by_cases hlt : k < L.length
  ·
   obtain ⟨b, off, rfl, _⟩ := hv (by omega);obtain ⟨h, hh⟩ : ∃ h, L.getD k Ik.nil = h := ⟨_, rfl⟩;have hck : Bl wr b (off + k * 8) h := by
    rw [← hh];exact DT ((hv.below hb hB).at_ Aa Ik.nil hlt)
   replace hck := hck.all;replace hh : Hid _ := hh;clear hB hv;go_wp2_with fail
   go_at_call 54
   refine (Kx h wr).mono ?_;rintro e w3 ⟨rfl, k3⟩;have b3 := AA hb k3;by_cases hq : Av h = true
   ·
    rw [hq];go_wp2
    go_roundw
    case rel =>
     refine ⟨k + 1, by go_num, by omega, fun j hj => ?_, b3⟩;by_cases e : j = k
     ·
      rw [e, hh.out]; exact hq
     exact hF.out j (by omega)
    case measure => simp [intOf]; omega
   have hq' : Av h = false := by simpa using hq
   rw [hq'];go_wp2
   go_ret
   refine ⟨⟨k, rfl, ?_, by omega, by omega⟩, b3⟩;rw [Gd Ik.nil hlt (by rw [hh.out]; exact hq')];simp
  obtain rfl : k = L.length := by omega
  go_wp2
  go_ret
  refine ⟨⟨-1, rfl, ?_, by omega, by omega⟩, hb⟩;rw [GY Ik.nil hF.out];rfl
theorem KY (ad : Option Addr) (cap : Nat) (L : List Ik) (w : World) (hv : AH AS w ad L) (hl : L.length ≤ 1048576) :
  Calls prog 53 #[.slice ad L.length cap, .func (Fn.func 54) #[] #[]] w fun e w' => e = .returned (.bool (!L.all Av)) ∧ Bw w w' := by
 have hI := LI ad cap L w hv hl;generalize (!L.all Av) = B at *
 go_enter func53, ntmps53
 go_wp2_with fail
 go_at_call 96
 refine hI.mono ?_;rintro e w1 ⟨⟨r, rfl, hr, r1, r2⟩, k1⟩;go_wp2
 go_ret
 exact ⟨rfl, k1⟩
attribute [local go_sem] ji ja bc
theorem EB (x : AG) : AX x.p = (Ay x.id x.po && (BR x.rg && (decide (x.two.length = 2) && (x.two.all (fun d => Aq d.m) && (decide (x.net.length ≤ 20) && (x.net.all BH && (decide ((x.ga.length : Int) = x.po) && (decide (x.ln.length ≤ 60) && (x.ln.all Av && (decide (x.sd.length ≤ 40))))))))))) := by
 rw [Bool.eq_iff_iff, Dj];simp only [Bool.and_eq_true, decide_eq_true_eq];have hl : x.p.two.length = x.two.length := by unfold AG.p; simp
 have h2 : x.two.length = 2 → (x.two.all (fun d => Aq d.m) = true ↔ Aq (AT x.p 0) = true ∧ Aq (AT x.p 1) = true) := by
  intro h;obtain ⟨a, b, e⟩ : ∃ a b, x.two = [a, b] := by
   match hx : x.two, h with
   | [a, b], _ => exact ⟨a, b, rfl⟩
  rw [CC, CC, e];simp
 have hi : Co x.p.ln = true ↔ x.ln.length ≤ 60 ∧ x.ln.all Av = true := by
  show Co x.ln = true ↔ _;unfold Co;simp only [Bool.and_eq_true, decide_eq_true_eq];exact And.comm
 rw [hl, hi];constructor
 ·
  rintro ⟨a1, a2, a3, a4, a5, a6, a7, a8, ⟨a9, b9⟩, a10⟩;exact ⟨a1, a2, a3, (h2 a3).2 ⟨a4, a5⟩, a7, a6, a8, a9, b9, a10⟩
 rintro ⟨a1, a2, a3, a4, a7, a6, a8, a9, b9, a10⟩;exact ⟨a1, a2, a3, ((h2 a3).1 a4).1, ((h2 a3).1 a4).2, a6, a7, a8, ⟨a9, b9⟩, a10⟩
theorem II (x : AG) (w : World) (hV : Cs w x) :
  Calls prog 16 #[.agg (bc x)] w fun e w' => e = .returned (.bool (AX x.p)) ∧ Bw w w' := by
 obtain ⟨R, hR⟩ := AB (AX x.p);rw [← hR];replace hR : Hid _ := hR;obtain ⟨y, hy, B0⟩ := AI w (Obj.cells (bc x) 34);have A : AZ y w.heap.size x := by rw [hy]; exact AZ.new w _ x
 have V := hV.later B0;clear hV;go_enter func16, ntmps16
 have a0 := A.all;go_wp2_with fail
 go_at_call 13
 rw [← hy];clear a0 hy;refine (Gw x.id x.po y).mono ?_;rintro e u0 ⟨ad', cap', rfl, O', k0⟩;have A := A.below k0 A.lt;have V := V.later k0;have B1 := AA B0 k0;clear k0 O';obtain ⟨u1, hu1, kk⟩ := AI u0 (Obj.cells #[ji (Bf x.id x.po), .slice ad' (Ap x.id x.po).length cap'] 42);have A := A.below kk A.lt;have V := V.later kk;have B2 := AA B1 kk;clear kk B1;go_upto_region 2 with fail
 rw [← hu1];clear hu1;cases h1 : Ay x.id x.po
 ·
  have hN : Hid (R = false) := by unfold Hid; rw [hR.out, EB, h1]; rfl
  replace h1 : Hid _ := h1;have a0 := A.all;go_wp2
  go_ret
  exact ⟨by rw [hN.out]; rfl, B2⟩
 replace h1 : Hid _ := h1;have a0 := A.all;go_wp2_with fail
 go_at_call 48
 clear a0;refine (IA x.rg u1).mono ?_;rintro e u2 ⟨rfl, kk⟩;have A := A.below kk A.lt;have V := V.later kk;have B2' := AA B2 kk;clear kk;cases h2 : BR x.rg
 ·
  have hN : Hid (R = false) := by unfold Hid; rw [hR.out, EB, h1.out, h2]; rfl
  replace h2 : Hid _ := h2;have a0 := A.all;go_wp2
  go_ret
  exact ⟨by rw [hN.out]; rfl, B2'⟩
 replace h2 : Hid _ := h2;by_cases e3 : x.two.length = 2
 ·
  have d3 : ((x.two.length : Int) == 2) = true := by rw [beq_iff_eq]; omega
  have h3 : Hid (decide (x.two.length = 2) = true) := decide_eq_true e3;replace e3 : Hid _ := e3;have a0 := A.all;go_wp2_with fail
  go_at_call 49
  clear a0;refine (KX x.aT x.cT x.two u2 V.t V.bt V.l V.bl).mono ?_;rintro e u4 ⟨rfl, kk⟩;have A := A.below kk A.lt;have V := V.later kk;have B2'' := B2'.trans (kk.mono B2'.size);clear kk;cases h4 : x.two.all (fun d => Aq d.m)
  ·
   have hN : Hid (R = false) := by unfold Hid; rw [hR.out, EB, h1.out, h2.out, h3.out, h4]; rfl
   replace h4 : Hid _ := h4;have a0 := A.all;go_wp2
   go_ret
   exact ⟨by rw [hN.out]; rfl, B2''⟩
  replace h4 : Hid _ := h4;by_cases e5 : x.net.length ≤ 20
  ·
   have d5 : decide ((x.net.length : Int) ≤ 20) = true := decide_eq_true (by omega);have h5 : Hid (decide (x.net.length ≤ 20) = true) := decide_eq_true e5;replace e5 : Hid _ := e5;have a0 := A.all;go_wp2_with fail
   go_at_call 51
   clear a0;refine (KV x.aN x.cN x.net u4 V.n V.bn).mono ?_;rintro e u6 ⟨rfl, kk⟩;have A := A.below kk A.lt;have V := V.later kk;have B2''' := B2''.trans (kk.mono B2''.size);clear kk;cases h6 : x.net.all BH
   focus
    have hN : Hid (R = false) := by unfold Hid; rw [hR.out, EB, h1.out, h2.out, h3.out, h4.out, h5.out, h6]; rfl
    replace h6 : Hid _ := h6
   rotate_left;focus
    replace h6 : Hid _ := h6;by_cases e7 : (x.ga.length : Int) = x.po
    focus
     have d7 : ((x.ga.length : Int) == x.po) = true := by simpa using e7
     have h7 : Hid (decide ((x.ga.length : Int) = x.po) = true) := decide_eq_true e7;replace e7 : Hid _ := e7;by_cases e8 : x.ln.length ≤ 60
     ·
      have d8 : decide ((x.ln.length : Int) ≤ 60) = true := decide_eq_true (by omega);have h8 : Hid (decide (x.ln.length ≤ 60) = true) := decide_eq_true e8;replace e8 : Hid _ := e8;have a0 := A.all;go_wp2_with fail
      go_at_call 53
      clear a0;refine (KY x.aL x.cL x.ln u6 V.i V.bi).mono ?_;rintro e u9 ⟨rfl, kk⟩;have A := A.below kk A.lt;have V := V.later kk;have B2'''' := B2'''.trans (kk.mono B2'''.size);clear kk;cases h9 : x.ln.all Av
      focus
       have hN : Hid (R = false) := by unfold Hid; rw [hR.out, EB, h1.out, h2.out, h3.out, h4.out, h5.out, h6.out, h7.out, h8.out, h9]; rfl
       replace h9 : Hid _ := h9
      rotate_left;focus
       replace h9 : Hid _ := h9;by_cases e10 : x.sd.length ≤ 40
       focus
        have d10 : decide ((x.sd.length : Int) ≤ 40) = true := decide_eq_true (by omega);have h10 : Hid (decide (x.sd.length ≤ 40) = true) := decide_eq_true e10;replace e10 : Hid _ := e10;have hN : Hid (R = true) := by unfold Hid; rw [hR.out, EB, h1.out, h2.out, h3.out, h4.out, h5.out, h6.out, h7.out, h8.out, h9.out, h10.out]; rfl
       rotate_left;focus
        have d10 : decide ((x.sd.length : Int) ≤ 40) = false := decide_eq_false (by omega);have h10 : decide (x.sd.length ≤ 40) = false := decide_eq_false e10;replace e10 : Hid _ := e10;have hN : Hid (R = false) := by unfold Hid; rw [hR.out, EB, h1.out, h2.out, h3.out, h4.out, h5.out, h6.out, h7.out, h8.out, h9.out, h10]; rfl
        replace h10 : Hid _ := h10
       rotate_left
      rotate_left 2;all_goals
       have a0 := A.all;go_wp2
       go_ret
       exact ⟨by rw [hN.out]; rfl, B2''''⟩
     focus
      have d8 : decide ((x.ln.length : Int) ≤ 60) = false := decide_eq_false (by omega);have h8 : decide (x.ln.length ≤ 60) = false := decide_eq_false e8;replace e8 : Hid _ := e8;have hN : Hid (R = false) := by unfold Hid; rw [hR.out, EB, h1.out, h2.out, h3.out, h4.out, h5.out, h6.out, h7.out, h8]; rfl
      replace h8 : Hid _ := h8
     rotate_left
    rotate_left;focus
     have d7 : ((x.ga.length : Int) == x.po) = false := by simpa using e7
     have h7 : decide ((x.ga.length : Int) = x.po) = false := decide_eq_false e7;replace e7 : Hid _ := e7;have hN : Hid (R = false) := by unfold Hid; rw [hR.out, EB, h1.out, h2.out, h3.out, h4.out, h5.out, h6.out, h7]; rfl
     replace h7 : Hid _ := h7
    rotate_left
   rotate_left 2;all_goals
    have a0 := A.all;go_wp2
    go_ret
    exact ⟨by rw [hN.out]; rfl, B2'''⟩
  have d5 : decide ((x.net.length : Int) ≤ 20) = false := decide_eq_false (by omega);have h5 : decide (x.net.length ≤ 20) = false := decide_eq_false e5;replace e5 : Hid _ := e5;have hN : Hid (R = false) := by unfold Hid; rw [hR.out, EB, h1.out, h2.out, h3.out, h4.out, h5]; rfl
  replace h5 : Hid _ := h5;have a0 := A.all;go_wp2
  go_ret
  exact ⟨by rw [hN.out]; rfl, B2''⟩
 have d3 : ((x.two.length : Int) == 2) = false := by rw [beq_eq_false_iff_ne]; omega
 have h3 : decide (x.two.length = 2) = false := decide_eq_false e3;replace e3 : Hid _ := e3;have hN : Hid (R = false) := by unfold Hid; rw [hR.out, EB, h1.out, h2.out, h3]; rfl
 replace h3 : Hid _ := h3;have a0 := A.all;go_wp2
 go_ret
 exact ⟨by rw [hN.out]; rfl, B2'⟩
attribute [local go_sem] pc
theorem I7 (id : Int) (ad : Option Addr) (cap : Nat) (L : List Pt) (w : World) (hv : AH AJ w ad L) (hl : L.length ≤ 1048576) :
  Calls prog 34 #[.agg #[ji id, .slice ad L.length cap]] w fun e w' => ∃ a c, e = .returned (.slice a L.length c) ∧ AD Bj 1 4 w.heap.size w' (.slice a L.length c) (BK L) ∧ Bw w w' := by
 obtain ⟨i0, hi, hz0, hz1, hz2⟩ := info_parts Gs;obtain ⟨y, hy, B0⟩ := AI w (Obj.cells #[ji id, .slice ad L.length cap] 42);have A : Ab y w.heap.size id (.slice ad L.length cap) := by rw [hy]; exact Ab.new w _ _ _
 have hB := hv.lt AK (by omega);have hV := hv.below B0 hB;have hB := hV.lt AK (by omega);have S0 := A.lt;clear hv;go_enter func34, ntmps34
 go_upto_region 1 with fail
 rw [← hy];clear hy;obtain ⟨a0, a1'⟩ := _root_.id A;go_wp2_with (first | (refine wpList_make_full _ rfl _ _ 30 rfl y.heap.size 4 i0 (.bool false) 1 underlying30 hi hz0 hz1 .i64 .i64 _ _ L.length rfl rfl rfl rfl ?c1 ?c2 ?c3 ?_))
 case c1 => rw [hz2]; omega
 case c2 => unfold maxLen; omega
 case c3 => exact Nat.le_refl _
 intro w1 hown hgrow;have hgl : (BK L).length = L.length := Ed L;have F0 : C8 Bj 1 4 y.heap.size w1 y.heap.size (BK L) 0 := C8.start (by rw [hgl]; exact hown);have B1 : Bw y w1 := (Below.refl _ _).grown hgrow (Nat.le_refl _) (by simp);clear hown hgrow a0 a1';have A1 := A.below B1 S0;obtain ⟨a0, a1'⟩ := _root_.id A1;go_wp2
 clear a0 a1';go_loopw [13] (fun i wr => ∃ k : Nat, k ≤ L.length ∧ i = .int .i64 k ∧ C8 Bj 1 4 y.heap.size wr y.heap.size (BK L) k ∧ Below y.heap.size y wr) (fun i _ => L.length - (intOf i).toNat)
 case atStart => exact ⟨0, Nat.zero_le _, rfl, F0, B1⟩
 case round =>
  obtain ⟨k, hk, rfl, F, B⟩ := hrel;clear F0 B1 A1;by_cases hlt : k < L.length
  ·
   obtain ⟨b, off, rfl, _⟩ := hV (by omega);obtain ⟨h, hh⟩ : ∃ h, L.getD k Pt.nil = h := ⟨_, rfl⟩;have hck : BL wr b (off + k * 11) h := by
    rw [← hh];exact BV ((hV.below B hB).at_ AK Pt.nil hlt)
   replace hck := hck.all;have hsz := F.lt;obtain ⟨u, hu, ku⟩ := AI wr (Obj.cells (pc h) 70);have G := F.keep (ku.block _ hsz.2);have B2 := B.trans (ku.mono (Nat.le_of_lt hsz.2));have U : Bo u wr.heap.size h := by rw [hu]; exact Df wr _ _
   obtain ⟨v0, hv0⟩ := G.cell (k * 1) (by rw [hgl]; omega);have f0 := G.frozen (k * 1);rw [Nat.mul_one] at hv0 f0;have G1 := G.step DE false (by rw [hgl]; exact hlt);have B3 := DC (Nat.le_refl _) (Bj h.op) (k * 1) B2;rw [I6 L hlt, hh] at G1;simp only [Bj, CN, Nat.mul_one] at G1 B3;clear F G B B2 hh hsz ku;go_upto_region 5 with fail
   rw [← hu];clear hck hu;replace U := U.all;go_wp2
   go_roundw
   case rel => exact ⟨k + 1, by omega, by go_num, G1, B3⟩
   case measure => simp [intOf]; omega
  obtain rfl : k = L.length := by omega
  have OZ : AD Bj 1 4 w.heap.size wr (.slice (some (ja y.heap.size 0)) L.length L.length) (BK L) := by
   have := C8.done DE (L := BK L) (by rw [hgl]; exact F);rw [hgl] at this;exact this.base B0.size
  have bZ := AA B0 B;go_wp2
  go_ret
  exact ⟨_, _, rfl, OZ, bZ⟩
theorem JK (id : Int) (ad : Option Addr) (cap : Nat) (L : List Pt) (w : World) (hv : AH AJ w ad L) (hl : L.length ≤ 1048576) :
  Calls prog 34 #[.agg #[ji id, .slice ad L.length cap]] w fun e w' => ∃ a c, e = .returned (.slice a (BK L).length c) ∧ AD Bj 1 4 w.heap.size w' (.slice a (BK L).length c) (BK L) ∧ Bw w w' := by
 rw [Ed];exact I7 id ad cap L w hv hl
end Go.Proofs.YthgcbihhdbpbdaaGreat
