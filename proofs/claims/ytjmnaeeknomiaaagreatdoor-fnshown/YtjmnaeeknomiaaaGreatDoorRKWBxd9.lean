import Derived.Test.YtjmnaeeknomiaaaGreatDoorRM13
namespace Go.Proofs.YtjmnaeeknomiaaaGreatDoor
open Go.ChangeShapes Go.WideShapes Go.ChangeAt Go.RowKit
open Go.ChangeMaps (open_string shut_string)
set_option linter.unusedVariables false
set_option maxRecDepth 100000
set_option maxHeartbeats 32000000
set_option linter.unusedSimpArgs false
open Go.Proofs.Tryz
attribute [local go_sem] ji ja bc mc
theorem AS.two {w : World} {q : Nat} {x : AF} (h : AS w q x) (T : List AD) (a : Option Addr) (c : Nat) : AS (w.setCell (ja q 5) (.slice a T.length c)) q { x with two := T, aT := a, cT := c } :=
 ⟨⟨(AB (by decide)).trans h.at_.c0, (AB (by decide)).trans h.at_.c1, (AB (by decide)).trans h.at_.c2, (AB (by decide)).trans h.at_.c3, (AB (by decide)).trans h.at_.c4, Al h.at_.c5, (AB (by decide)).trans h.at_.c6, (AB (by decide)).trans h.at_.c7, (AB (by decide)).trans h.at_.c8, (AB (by decide)).trans h.at_.c9⟩, fun i => by rw [World.frozen?_setCell]; exact h.fr i⟩
theorem HA {TN : List AD} (T : List AD) (e : AD) (hT : TN = T ++ [e]) (F : AD → Prop) (h1 : ∀ j, j < T.length → F (T.getD j AD.nil)) (h2 : F e) : ∀ j, j < TN.length → F (TN.getD j AD.nil) := by
 subst hT;intro j hj;by_cases h : j < T.length
 ·
  have := h1 j h;simp only [List.getD, List.getElem?_append_left h] at this ⊢;exact this
 have e1 : j = T.length := by simp at hj; omega
 subst e1;simpa [List.getD] using h2
theorem Lq {T TN L : List AD} {e d : AD} {k : Nat} (hT : TN = T ++ [e]) (hl : T.length = k) (h : ∀ j, j < k → (T.getD j AD.nil).m = (L.getD j AD.nil).m) (hd : L.getD k AD.nil = d) (he : e.m = d.m) : ∀ j, j < k + 1 → (TN.getD j AD.nil).m = (L.getD j AD.nil).m := by
 subst hT;intro j hj;by_cases hjk : j = k
 ·
  subst hjk;rw [hd, ← hl, ← he]; simp [List.getD]
 rw [← h j (by omega)];simp [List.getD, List.getElem?_append_left (show j < T.length by omega)]
theorem LR {T L : List AD} (hl : T.length = L.length) (h : ∀ j, j < L.length → (T.getD j AD.nil).m = (L.getD j AD.nil).m) : T.map AD.m = L.map AD.m := by
 apply List.ext_getElem
 ·
  simp [hl]
 intro j h1 h2;have hj : j < L.length := by simpa using h2
 have hj' : j < T.length := by omega
 have := h j hj;simpa [List.getD, hj, hj'] using this
theorem GA {W : World} {base : Nat} {al : Bool} {v3 : Value} {ob : Obj} (h : (al = false ∧ v3 = undef) ∨ (al = true ∧ ∃ q, v3 = .pointer (some (ja q 0)) ∧ Aj W q ∧ base ≤ q)) : (al = false ∧ v3 = undef) ∨ (al = true ∧ ∃ q, v3 = .pointer (some (ja q 0)) ∧ Aj (W.alloc ob) q ∧ base ≤ q) := by
 rcases h with h | ⟨h1, q, h2, h3, h4⟩
 ·
  exact .inl h
 exact .inr ⟨h1, q, h2, (Below.heap_alloc W ob q (Array.getElem?_eq_some_iff.1 h3).1).trans h3, h4⟩
theorem BR {W : World} {q : Nat} (h : Aj W q) : q < W.heap.size := (Array.getElem?_eq_some_iff.1 h).1
theorem GD {W W' : World} {base : Nat} {al : Bool} {v3 : Value} (h : (al = false ∧ v3 = undef) ∨ (al = true ∧ ∃ q, v3 = .pointer (some (ja q 0)) ∧ Aj W q ∧ base ≤ q)) (k : ∀ q, Aj W q → W'.heap[q]? = W.heap[q]?) : (al = false ∧ v3 = undef) ∨ (al = true ∧ ∃ q, v3 = .pointer (some (ja q 0)) ∧ Aj W' q ∧ base ≤ q) := by
 rcases h with h | ⟨h1, q, h2, h3, h4⟩
 ·
  exact .inl h
 exact .inr ⟨h1, q, h2, (k q h3).trans h3, h4⟩
theorem GO (x : AF) (w : World) (hV : Ck w x) (hn1 : x.aN = none → x.cN = 0) (hn2 : x.aG = none → x.cG = 0) (hn3 : x.aL = none → x.cL = 0) (hn4 : x.aS = none → x.cS = 0) (hnL : ∀ i, i < x.two.length → (x.two.getD i AD.nil).ad = none → (x.two.getD i AD.nil).cap = 0) :
  Calls prog 133 #[.agg (bc x)] w fun e w' => ∃ x2 : AF, e = .returned (.agg (bc x2)) ∧ x2.p = x.p ∧ x2.two.length = x.two.length ∧ AL w.heap.size w' x2 ∧ Bw w w' := by
 obtain ⟨i5, hi5, hz50, hz51, hz52⟩ := info_parts Kn;obtain ⟨i1, hi1, hz10, hz11, hz12⟩ := info_parts Fs;obtain ⟨i2, hi2, hz20, hz21, hz22⟩ := info_parts IS;obtain ⟨i3, hi3, hz30, hz31, hz32⟩ := info_parts FZ;obtain ⟨i4, hi4, hz40, hz41, hz42⟩ := info_parts Gt;obtain ⟨y, hy⟩ := AC ((w.alloc (Obj.cells (bc x) 63)).alloc (Obj.cells #[ji 0, ji 0, ji 0, ji 0, ji 0, .slice none 0 0, .slice none 0 0, .slice none 0 0, .slice none 0 0, .slice none 0 0] 63));have B0 : Bw w y := by rw [hy]; exact ((Below.refl _ _).alloc (Nat.le_refl _) _).alloc (by simp) _
 have A : Af y w.heap.size x := by rw [hy]; constructor <;> simp [go_sem]
 have V := hV.later B0;have RZ : AS y (w.heap.size + 1) AF.zero := Aj.box (by unfold Aj; rw [hy]; have := Cl (w.alloc (Obj.cells (bc x) 63)) (Obj.cells #[ji 0, ji 0, ji 0, ji 0, ji 0, .slice none 0 0, .slice none 0 0, .slice none 0 0, .slice none 0 0, .slice none 0 0] 63); simpa using this);have SR := RZ.lt;have V1 := V.n;have V2 := V.g;have V3 := V.i;have V4 := V.s;go_enter func133, ntmps133
 go_upto_region 1 with fail
 rw [← hy];clear hy;refine An (fun Y => Bw y Y) fun u0 hb0 => ?_
 refine tw 0 5 (.pointer (some (ja w.heap.size 0))) ?_;refine tw 1 6 (ji x.id) ?_ (hy := by intro Y hSw; have X := (A.below hSw A.lt).all; go_simp);refine tw 2 7 (.pointer (some (ja w.heap.size 1))) ?_;refine tw 3 8 (ji x.po) ?_ (hy := by intro Y hSw; have X := (A.below hSw A.lt).all; go_simp);refine tw 4 9 (.pointer (some (ja w.heap.size 2))) ?_;refine tw 5 10 (.agg #[ji x.rg.ep, ji x.rg.ow, ji x.rg.pa]) ?_ (hy := by intro Y hSw; have X := (A.below hSw A.lt).all; go_simp);refine tw 7 12 (.pointer (some (ja w.heap.size 6))) ?_;refine tw 8 13 (.slice x.aN x.net.length x.cN) ?_ (hy := by intro Y hSw; have X := (A.below hSw A.lt).all; go_simp);refine tw 11 16 (.pointer (some (ja w.heap.size 7))) ?_;refine tw 12 17 (.slice x.aG x.ga.length x.cG) ?_ (hy := by intro Y hSw; have X := (A.below hSw A.lt).all; go_simp);refine tw 15 20 (.pointer (some (ja w.heap.size 8))) ?_;refine tw 16 21 (.slice x.aL x.ln.length x.cL) ?_ (hy := by intro Y hSw; have X := (A.below hSw A.lt).all; go_simp);refine tw 19 24 (.pointer (some (ja w.heap.size 9))) ?_;refine tw 20 25 (.slice x.aS x.sd.length x.cS) ?_ (hy := by intro Y hSw; have X := (A.below hSw A.lt).all; go_simp);refine HW (k := 1) (Lu x w.heap.size y.heap.size y) ?_ ?_ 10 _ _ _ ?_
 ·
  rintro n listed l W ⟨b1, a1, b2, a2, b3, a3, b4, a4, al, c, v3, v11, v14, v15, v18, v19, v22, v23, v26, v27, hn, rfl, rfl, hS⟩;have f1 := hS.h1.flag;have f2 := hS.h2.flag;have f3 := hS.h3.flag;have f4 := hS.h4.flag;have k2 := hS.k2;have k3 := hS.k3;have k4 := hS.k4;have k5 := hS.k5;refine ⟨HD b1 a1 b2 a2 b3 a3 b4 a4 al c, ?_, ?_, ?_⟩
  ·
   clear hS;cases b1 <;> cases a1 <;> (try (cases f1 rfl)) <;> cases b2 <;> cases a2 <;> (try (cases f2 rfl)) <;> (try (cases k2 rfl)) <;> cases b3 <;> cases a3 <;> (try (cases f3 rfl)) <;> (try (cases k3 rfl)) <;> cases b4 <;> cases a4 <;> (try (cases f4 rfl)) <;> (try (cases k4 rfl)) <;> cases c <;> (try (cases k5 rfl)) <;> cases al <;> first | (exfalso; unfold Dj at hn; simp at hn; done) | kernel_rfl
  ·
   exact K9 b1 a1 b2 a2 b3 a3 b4 a4 al c k2 k3 k4 k5 (by omega)
  intro i hi K hK;unfold HD at hi;simp only [List.mem_append] at hi;obtain ⟨bel, h1, h2, h3, h4, _, _, _, _, ha, hc⟩ := hS;have wb := bel.size;rcases hi with ((((((((hi | hi) | hi) | hi) | hi) | hi) | hi) | hi) | hi) | hi
  ·
   cases b1
   ·
    obtain rfl : i = 6 := by simpa using hi
    have e0 : a1 = false ∧ v14 = undef := by rcases h1 with q | q | q; exact ⟨q.2.1, q.2.2.2⟩; cases q.1; cases q.1
    obtain ⟨rfl, rfl⟩ := e0;have bel' : Bw y (W.alloc (Obj.cells #[] 164)) := bel.trans ((Ax (w := W) _).mono wb);refine Ac rfl fun Kz hKz => ?_
    unfold DG;go_simp
    exact hKz _ _ (hK (DG x w.heap.size v3 (.slice (some (ja W.heap.size 0)) 0 0) undef v15 v18 v19 v22 v23 v26 v27) (W.alloc (Obj.cells #[] 164)) bel' ⟨true, false, b2, a2, b3, a3, b4, a4, al, c, v3, (.slice (some (ja W.heap.size 0)) 0 0), undef, v15, v18, v19, v22, v23, v26, v27, by unfold Dj at hn ⊢; simp at hn ⊢; omega, rfl, rfl, ⟨bel', (.inr (.inl ⟨rfl, rfl, rfl, (AA.empty W).base wb⟩)), (h2.alloc _), (h3.alloc _), (h4.alloc _), k2, k3, k4, k5, GA ha, hc⟩⟩)
   simp at hi
  ·
   cases b1
   ·
    simp at hi
   cases a1
   ·
    obtain rfl : i = 9 := by revert hi; simp
    have e0 : v14 = undef ∧ AA As 12 164 y.heap.size W v11 ([] : List Wi) := by rcases h1 with q | q | q; cases q.1; exact ⟨q.2.2.1, q.2.2.2⟩; cases q.2.1
    obtain ⟨rfl, FO⟩ := e0;refine Ac rfl fun Kz hKz => ?_
    refine CC CY DR 14 _ _ 59 rfl rfl y.heap.size 164 i1 (.agg #[ji 0, .bool false, ji 0, ji 0, ji 0, ji 0, ji 0, ji 0, ji 0, ji 0, ji 0, .bool false]) 96 underlying59 hi1 hz10 hz11 hz12 rfl (by decide) (by decide) v11 ([] : List Wi) rfl FO x.aN x.cN x.net rfl hn1 (V1.below bel (V1.lt CY (by omega))) (by have := hV.bn; simp; omega) wb ?_;intro v' W' oN gN _;replace oN : AA As 12 164 y.heap.size W' v' x.net := oN;have bel' : Bw y W' := bel.grown gN wb (fun j e => (FO.lt j e).1);exact hKz _ _ (hK (DG x w.heap.size v3 v11 v' v15 v18 v19 v22 v23 v26 v27) W' bel' ⟨true, true, b2, a2, b3, a3, b4, a4, al, c, v3, v11, v', v15, v18, v19, v22, v23, v26, v27, by unfold Dj at hn ⊢; simp at hn ⊢; omega, rfl, rfl, ⟨bel', (.inr (.inr ⟨rfl, rfl, oN⟩)), (h2.keep (fun u M ho g e => gN.block g (ho.lt g e).2 (fun e2 => FO.apart ho (by decide) e2.symm e))), (h3.keep (fun u M ho g e => gN.block g (ho.lt g e).2 (fun e2 => FO.apart ho (by decide) e2.symm e))), (h4.keep (fun u M ho g e => gN.block g (ho.lt g e).2 (fun e2 => FO.apart ho (by decide) e2.symm e))), (fun _ => rfl), k3, k4, k5, GD ha (fun q hq => gN.block q (BR hq) (fun e => FO.notZ hq (by decide) e.symm)), (hc.elim .inl (fun q => by have := k2 (k3 (k4 (k5 q.1))); cases this))⟩⟩)
   simp at hi
  ·
   cases b2
   ·
    obtain rfl : i = 10 := by simpa using hi
    have e0 : a2 = false ∧ v18 = undef := by rcases h2 with q | q | q; exact ⟨q.2.1, q.2.2.2⟩; cases q.1; cases q.1
    obtain ⟨rfl, rfl⟩ := e0;have bel' : Bw y (W.alloc (Obj.cells #[] 4)) := bel.trans ((Ax (w := W) _).mono wb);refine Ac rfl fun Kz hKz => ?_
    unfold DG;go_simp
    exact hKz _ _ (hK (DG x w.heap.size v3 v11 v14 (.slice (some (ja W.heap.size 0)) 0 0) undef v19 v22 v23 v26 v27) (W.alloc (Obj.cells #[] 4)) bel' ⟨b1, a1, true, false, b3, a3, b4, a4, al, c, v3, v11, v14, (.slice (some (ja W.heap.size 0)) 0 0), undef, v19, v22, v23, v26, v27, by unfold Dj at hn ⊢; simp at hn ⊢; omega, rfl, rfl, ⟨bel', (h1.alloc _), (.inr (.inl ⟨rfl, rfl, rfl, (AA.empty W).base wb⟩)), (h3.alloc _), (h4.alloc _), k2, k3, k4, k5, GA ha, hc⟩⟩)
   simp at hi
  ·
   cases b2
   ·
    simp at hi
   cases a2
   ·
    have hp : a1 = true ∧ i = 13 := by revert hi; cases a1 <;> simp
    obtain ⟨hp1, rfl⟩ := hp;have e0 : v18 = undef ∧ AA Bz 1 4 y.heap.size W v15 ([] : List Bool) := by rcases h2 with q | q | q; cases q.1; exact ⟨q.2.2.1, q.2.2.2⟩; cases q.2.1
    obtain ⟨rfl, FO⟩ := e0;refine Ac rfl fun Kz hKz => ?_
    refine CC EE HQ 18 _ _ 60 rfl rfl y.heap.size 4 i2 (.bool false) 1 underlying60 hi2 hz20 hz21 hz22 rfl (by decide) (by decide) v15 ([] : List Bool) rfl FO x.aG x.cG x.ga rfl hn2 (V2.below bel (V2.lt EE (by omega))) (by have := hV.bg; simp; omega) wb ?_;intro v' W' oN gN _;replace oN : AA Bz 1 4 y.heap.size W' v' x.ga := oN;have bel' : Bw y W' := bel.grown gN wb (fun j e => (FO.lt j e).1);exact hKz _ _ (hK (DG x w.heap.size v3 v11 v14 v15 v' v19 v22 v23 v26 v27) W' bel' ⟨b1, a1, true, true, b3, a3, b4, a4, al, c, v3, v11, v14, v15, v', v19, v22, v23, v26, v27, by unfold Dj at hn ⊢; simp at hn ⊢; omega, rfl, rfl, ⟨bel', (h1.keep (fun u M ho g e => gN.block g (ho.lt g e).2 (fun e2 => FO.apart ho (by decide) e2.symm e))), (.inr (.inr ⟨rfl, rfl, oN⟩)), (h3.keep (fun u M ho g e => gN.block g (ho.lt g e).2 (fun e2 => FO.apart ho (by decide) e2.symm e))), (h4.keep (fun u M ho g e => gN.block g (ho.lt g e).2 (fun e2 => FO.apart ho (by decide) e2.symm e))), (fun _ => hp1), (fun _ => rfl), k4, k5, GD ha (fun q hq => gN.block q (BR hq) (fun e => FO.notZ hq (by decide) e.symm)), (hc.elim .inl (fun q => by have := k3 (k4 (k5 q.1)); cases this))⟩⟩)
   revert hi; cases a1 <;> simp
  ·
   cases b3
   ·
    obtain rfl : i = 14 := by simpa using hi
    have e0 : a3 = false ∧ v22 = undef := by rcases h3 with q | q | q; exact ⟨q.2.1, q.2.2.2⟩; cases q.1; cases q.1
    obtain ⟨rfl, rfl⟩ := e0;have bel' : Bw y (W.alloc (Obj.cells #[] 27)) := bel.trans ((Ax (w := W) _).mono wb);refine Ac rfl fun Kz hKz => ?_
    unfold DG;go_simp
    exact hKz _ _ (hK (DG x w.heap.size v3 v11 v14 v15 v18 (.slice (some (ja W.heap.size 0)) 0 0) undef v23 v26 v27) (W.alloc (Obj.cells #[] 27)) bel' ⟨b1, a1, b2, a2, true, false, b4, a4, al, c, v3, v11, v14, v15, v18, (.slice (some (ja W.heap.size 0)) 0 0), undef, v23, v26, v27, by unfold Dj at hn ⊢; simp at hn ⊢; omega, rfl, rfl, ⟨bel', (h1.alloc _), (h2.alloc _), (.inr (.inl ⟨rfl, rfl, rfl, (AA.empty W).base wb⟩)), (h4.alloc _), k2, k3, k4, k5, GA ha, hc⟩⟩)
   simp at hi
  ·
   cases b3
   ·
    simp at hi
   cases a3
   ·
    have hp : a2 = true ∧ i = 17 := by revert hi; cases a2 <;> simp
    obtain ⟨hp1, rfl⟩ := hp;have e0 : v22 = undef ∧ AA AW 8 27 y.heap.size W v19 ([] : List Ik) := by rcases h3 with q | q | q; cases q.1; exact ⟨q.2.2.1, q.2.2.2⟩; cases q.2.1
    obtain ⟨rfl, FO⟩ := e0;refine Ac rfl fun Kz hKz => ?_
    refine CC Av FB 22 _ _ 34 rfl rfl y.heap.size 27 i3 (.agg #[ji 0, ji 0, ji 0, ji 0, ji 0, ji 0, ji 0, .bool false]) 64 underlying34 hi3 hz30 hz31 hz32 rfl (by decide) (by decide) v19 ([] : List Ik) rfl FO x.aL x.cL x.ln rfl hn3 (V3.below bel (V3.lt Av (by omega))) (by have := hV.bi; simp; omega) wb ?_;intro v' W' oN gN _;replace oN : AA AW 8 27 y.heap.size W' v' x.ln := oN;have bel' : Bw y W' := bel.grown gN wb (fun j e => (FO.lt j e).1);exact hKz _ _ (hK (DG x w.heap.size v3 v11 v14 v15 v18 v19 v' v23 v26 v27) W' bel' ⟨b1, a1, b2, a2, true, true, b4, a4, al, c, v3, v11, v14, v15, v18, v19, v', v23, v26, v27, by unfold Dj at hn ⊢; simp at hn ⊢; omega, rfl, rfl, ⟨bel', (h1.keep (fun u M ho g e => gN.block g (ho.lt g e).2 (fun e2 => FO.apart ho (by decide) e2.symm e))), (h2.keep (fun u M ho g e => gN.block g (ho.lt g e).2 (fun e2 => FO.apart ho (by decide) e2.symm e))), (.inr (.inr ⟨rfl, rfl, oN⟩)), (h4.keep (fun u M ho g e => gN.block g (ho.lt g e).2 (fun e2 => FO.apart ho (by decide) e2.symm e))), k2, (fun _ => hp1), (fun _ => rfl), k5, GD ha (fun q hq => gN.block q (BR hq) (fun e => FO.notZ hq (by decide) e.symm)), (hc.elim .inl (fun q => by have := k4 (k5 q.1); cases this))⟩⟩)
   revert hi; cases a2 <;> simp
  ·
   cases b4
   ·
    obtain rfl : i = 18 := by simpa using hi
    have e0 : a4 = false ∧ v26 = undef := by rcases h4 with q | q | q; exact ⟨q.2.1, q.2.2.2⟩; cases q.1; cases q.1
    obtain ⟨rfl, rfl⟩ := e0;have bel' : Bw y (W.alloc (Obj.cells #[] 41)) := bel.trans ((Ax (w := W) _).mono wb);refine Ac rfl fun Kz hKz => ?_
    unfold DG;go_simp
    exact hKz _ _ (hK (DG x w.heap.size v3 v11 v14 v15 v18 v19 v22 (.slice (some (ja W.heap.size 0)) 0 0) undef v27) (W.alloc (Obj.cells #[] 41)) bel' ⟨b1, a1, b2, a2, b3, a3, true, false, al, c, v3, v11, v14, v15, v18, v19, v22, (.slice (some (ja W.heap.size 0)) 0 0), undef, v27, by unfold Dj at hn ⊢; simp at hn ⊢; omega, rfl, rfl, ⟨bel', (h1.alloc _), (h2.alloc _), (h3.alloc _), (.inr (.inl ⟨rfl, rfl, rfl, (AA.empty W).base wb⟩)), k2, k3, k4, k5, GA ha, hc⟩⟩)
   simp at hi
  ·
   cases b4
   ·
    simp at hi
   cases a4
   ·
    have hp : a3 = true ∧ i = 21 := by revert hi; cases a3 <;> simp
    obtain ⟨hp1, rfl⟩ := hp;have e0 : v26 = undef ∧ AA Aw 8 41 y.heap.size W v23 ([] : List Ou) := by rcases h4 with q | q | q; cases q.1; exact ⟨q.2.2.1, q.2.2.2⟩; cases q.2.1
    obtain ⟨rfl, FO⟩ := e0;refine Ac rfl fun Kz hKz => ?_
    refine CC DS FA 26 _ _ 61 rfl rfl y.heap.size 41 i4 (.agg #[ji 0, ji 0, ji 0, ji 0, ji 0, ji 0, ji 0, .bool false]) 64 underlying61 hi4 hz40 hz41 hz42 rfl (by decide) (by decide) v23 ([] : List Ou) rfl FO x.aS x.cS x.sd rfl hn4 (V4.below bel (V4.lt DS (by omega))) (by have := hV.bs; simp; omega) wb ?_;intro v' W' oN gN _;replace oN : AA Aw 8 41 y.heap.size W' v' x.sd := oN;have bel' : Bw y W' := bel.grown gN wb (fun j e => (FO.lt j e).1);exact hKz _ _ (hK (DG x w.heap.size v3 v11 v14 v15 v18 v19 v22 v23 v' v27) W' bel' ⟨b1, a1, b2, a2, b3, a3, true, true, al, c, v3, v11, v14, v15, v18, v19, v22, v23, v', v27, by unfold Dj at hn ⊢; simp at hn ⊢; omega, rfl, rfl, ⟨bel', (h1.keep (fun u M ho g e => gN.block g (ho.lt g e).2 (fun e2 => FO.apart ho (by decide) e2.symm e))), (h2.keep (fun u M ho g e => gN.block g (ho.lt g e).2 (fun e2 => FO.apart ho (by decide) e2.symm e))), (h3.keep (fun u M ho g e => gN.block g (ho.lt g e).2 (fun e2 => FO.apart ho (by decide) e2.symm e))), (.inr (.inr ⟨rfl, rfl, oN⟩)), k2, k3, (fun _ => hp1), (fun _ => rfl), GD ha (fun q hq => gN.block q (BR hq) (fun e => FO.notZ hq (by decide) e.symm)), (hc.elim .inl (fun q => by have := k5 q.1; cases this))⟩⟩)
   revert hi; cases a3 <;> simp
  ·
   cases a4
   ·
    simp at hi
   cases c
   ·
    obtain rfl : i = 22 := by simpa using hi
    obtain rfl := k4 rfl;obtain rfl := k3 rfl;obtain rfl := k2 rfl;obtain rfl : v27 = undef := by rcases hc with q | q; exact q.2; cases q.1
    have q1 : AA As 12 164 y.heap.size W v14 x.net := by rcases h1 with q | q | q; cases q.2.1; cases q.2.1; exact q.2.2
    obtain ⟨d1, e1, rfl⟩ := q1.open_;have q2 : AA Bz 1 4 y.heap.size W v18 x.ga := by rcases h2 with q | q | q; cases q.2.1; cases q.2.1; exact q.2.2
    obtain ⟨d2, e2, rfl⟩ := q2.open_;have q3 : AA AW 8 27 y.heap.size W v22 x.ln := by rcases h3 with q | q | q; cases q.2.1; cases q.2.1; exact q.2.2
    obtain ⟨d3, e3, rfl⟩ := q3.open_;have q4 : AA Aw 8 41 y.heap.size W v26 x.sd := by rcases h4 with q | q | q; cases q.2.1; cases q.2.1; exact q.2.2
    obtain ⟨d4, e4, rfl⟩ := q4.open_;refine Ac rfl fun Kz hKz => ?_
    unfold DG;go_simp
    exact hKz _ _ (hK (DG x w.heap.size v3 v11 (.slice d1 x.net.length e1) v15 (.slice d2 x.ga.length e2) v19 (.slice d3 x.ln.length e3) v23 (.slice d4 x.sd.length e4) (Fu x (.slice d1 x.net.length e1) (.slice d2 x.ga.length e2) (.slice d3 x.ln.length e3) (.slice d4 x.sd.length e4))) W bel ⟨b1, true, b2, true, b3, true, b4, true, al, true, v3, v11, (.slice d1 x.net.length e1), v15, (.slice d2 x.ga.length e2), v19, (.slice d3 x.ln.length e3), v23, (.slice d4 x.sd.length e4), (Fu x (.slice d1 x.net.length e1) (.slice d2 x.ga.length e2) (.slice d3 x.ln.length e3) (.slice d4 x.sd.length e4)), by unfold Dj at hn ⊢; simp at hn ⊢; omega, rfl, rfl, ⟨bel, h1, h2, h3, h4, k2, k3, k4, fun _ => rfl, ha, .inr ⟨rfl, rfl⟩⟩⟩)
   simp at hi
  cases al
  ·
   obtain rfl : i = 23 := by simpa using hi
   obtain rfl : v3 = undef := by rcases ha with q | q; exact q.2; cases q.1
   have bel' : Bw y (W.alloc (Obj.cells #[ji 0, ji 0, ji 0, ji 0, ji 0, .slice none 0 0, .slice none 0 0, .slice none 0 0, .slice none 0 0, .slice none 0 0] 63)) := bel.trans ((Ax (w := W) _).mono wb);refine Ac rfl fun Kz hKz => ?_
   unfold DG;go_simp
   exact hKz _ _ (hK (DG x w.heap.size (.pointer (some (ja W.heap.size 0))) v11 v14 v15 v18 v19 v22 v23 v26 v27) (W.alloc (Obj.cells #[ji 0, ji 0, ji 0, ji 0, ji 0, .slice none 0 0, .slice none 0 0, .slice none 0 0, .slice none 0 0, .slice none 0 0] 63)) bel' ⟨b1, a1, b2, a2, b3, a3, b4, a4, true, c, (.pointer (some (ja W.heap.size 0))), v11, v14, v15, v18, v19, v22, v23, v26, v27, by unfold Dj at hn ⊢; simp at hn ⊢; omega, rfl, rfl, ⟨bel', h1.alloc _, h2.alloc _, h3.alloc _, h4.alloc _, k2, k3, k4, k5, .inr ⟨rfl, _, rfl, Cl W _, wb⟩, hc⟩⟩)
  simp at hi
 ·
  rintro listed l W ⟨b1, a1, b2, a2, b3, a3, b4, a4, al, c, v3, v11, v14, v15, v18, v19, v22, v23, v26, v27, hn, rfl, rfl, hS⟩;obtain ⟨rfl, rfl, rfl, rfl, rfl, rfl, rfl, rfl, rfl, rfl⟩ := J3 b1 a1 b2 a2 b3 a3 b4 a4 al c hn.symm;obtain ⟨bel, h1, h2, h3, h4, _, _, _, _, ha, hc⟩ := hS;have wb := bel.size;have q1 : AA As 12 164 y.heap.size W v14 x.net := by rcases h1 with q | q | q; cases q.2.1; cases q.2.1; exact q.2.2
  obtain ⟨d1, e1, rfl⟩ := q1.open_;have q2 : AA Bz 1 4 y.heap.size W v18 x.ga := by rcases h2 with q | q | q; cases q.2.1; cases q.2.1; exact q.2.2
  obtain ⟨d2, e2, rfl⟩ := q2.open_;have q3 : AA AW 8 27 y.heap.size W v22 x.ln := by rcases h3 with q | q | q; cases q.2.1; cases q.2.1; exact q.2.2
  obtain ⟨d3, e3, rfl⟩ := q3.open_;have q4 : AA Aw 8 41 y.heap.size W v26 x.sd := by rcases h4 with q | q | q; cases q.2.1; cases q.2.1; exact q.2.2
  obtain ⟨d4, e4, rfl⟩ := q4.open_;obtain ⟨q, rfl, zq, lq⟩ : ∃ q, v3 = .pointer (some (ja q 0)) ∧ Aj W q ∧ y.heap.size ≤ q := by rcases ha with z | z; cases z.1; exact z.2
  obtain rfl : v27 = Fu x (.slice d1 x.net.length e1) (.slice d2 x.ga.length e2) (.slice d3 x.ln.length e3) (.slice d4 x.sd.length e4) := by rcases hc with z | z; cases z.1; exact z.2
  clear h1 h2 h3 h4 ha hc hn;have z1 := q1.notZ zq (by decide);have z2 := q2.notZ zq (by decide);have z3 := q3.notZ zq (by decide);have z4 := q4.notZ zq (by decide);have ZQ := zq.box;have zlt := BR zq;obtain ⟨W1, hW1⟩ := AC ((((((((((W.setCell (ja q 0) (ji x.id)).setCell (ja q 1) (ji x.po)).setCell (ja q 2) (ji x.rg.ep)).setCell (ja q 3) (ji x.rg.ow)).setCell (ja q 4) (ji x.rg.pa)).setCell (ja q 5) (.slice none 0 0)).setCell (ja q 6) (.slice d1 x.net.length e1)).setCell (ja q 7) (.slice d2 x.ga.length e2)).setCell (ja q 8) (.slice d3 x.ln.length e3)).setCell (ja q 9) (.slice d4 x.sd.length e4));have Q1 : AS W1 q ⟨x.id, x.po, x.rg, [], none, 0, x.net, d1, e1, x.ga, d2, e2, x.ln, d3, e3, x.sd, d4, e4⟩ := by rw [hW1]; exact ZQ.put ⟨x.id, x.po, x.rg, [], none, 0, x.net, d1, e1, x.ga, d2, e2, x.ln, d3, e3, x.sd, d4, e4⟩
  have kp : ∀ k, k ≠ q → W1.heap[k]? = W.heap[k]? := fun k hk => by rw [hW1]; exact Ak W q k ⟨x.id, x.po, x.rg, [], none, 0, x.net, d1, e1, x.ga, d2, e2, x.ln, d3, e3, x.sd, d4, e4⟩ hk
  have bel1 : Bw y W1 := by rw [hW1]; exact CO ⟨x.id, x.po, x.rg, [], none, 0, x.net, d1, e1, x.ga, d2, e2, x.ln, d3, e3, x.sd, d4, e4⟩ bel lq
  have q1 := q1.keep (fun g e => kp g (fun e2 => z1 (by rw [e, e2])));have q2 := q2.keep (fun g e => kp g (fun e2 => z2 (by rw [e, e2])));have q3 := q3.keep (fun g e => kp g (fun e2 => z3 (by rw [e, e2])));have q4 := q4.keep (fun g e => kp g (fun e2 => z4 (by rw [e, e2])));obtain ⟨⟨z0, z1, z2, z3, z4, z5, z6, z7, z8, z9⟩, zf⟩ := ZQ;dsimp only [AF.zero] at z0 z1 z2 z3 z4 z5 z6 z7 z8 z9;obtain ⟨g0, g1, g2, g3, g4, g5, g6, g7, g8, g9⟩ := CX zf;clear zf;refine w1 24 fun Kz hKz => ?_
  unfold DG Fu;go_simp
  rw [← hW1];clear hW1 z0 z1 z2 z3 z4 z5 z6 z7 z8 z9 g0 g1 g2 g3 g4 g5 g6 g7 g8 g9;refine hKz _ _ ⟨bel1, ?_⟩;clear hKz Kz;refine Ag ?_;have zs1 : q < W1.heap.size := Q1.lt;have O1 : AL y.heap.size W1 ⟨x.id, x.po, x.rg, [], none, 0, x.net, d1, e1, x.ga, d2, e2, x.ln, d3, e3, x.sd, d4, e4⟩ := ⟨AA.nil, fun i hi => absurd hi (by simp), q1, q2, q3, q4, fun j hj => absurd hj (by simp)⟩;clear bel wb zq zlt kp q1 q2 q3 q4;go_wp2
  go_loopw [4] (fun i wr => ∃ (k : Nat) (T : List AD) (aT : Option Addr) (cT : Nat), k ≤ x.two.length ∧ i = .int .i64 (k : Int) ∧ T.length = k ∧ (∀ j, j < k → (T.getD j AD.nil).m = (x.two.getD j AD.nil).m) ∧ AS wr q ⟨x.id, x.po, x.rg, T, aT, cT, x.net, d1, e1, x.ga, d2, e2, x.ln, d3, e3, x.sd, d4, e4⟩ ∧ AL y.heap.size wr ⟨x.id, x.po, x.rg, T, aT, cT, x.net, d1, e1, x.ga, d2, e2, x.ln, d3, e3, x.sd, d4, e4⟩ ∧ (∀ g, (Value.slice aT T.length cT).ownBlock = some g → q < g) ∧ (∀ j, j < k → ∀ g, (Value.slice (T.getD j AD.nil).ad (T.getD j AD.nil).m.lg.length (T.getD j AD.nil).cap).ownBlock = some g → q < g) ∧ Below y.heap.size y wr) (fun i _ => x.two.length - (intOf i).toNat)
  case atStart => exact ⟨0, [], none, 0, Nat.zero_le _, rfl, rfl, fun j hj => absurd hj (by omega), Q1, O1, (fun g e => by cases e), fun j hj => absurd hj (by omega), bel1⟩
  case round =>
   clear Q1 O1 bel1 zs1;obtain ⟨k, T, aT, cT, hk, rfl, hTl, hTm, Q, O, loT, loL, K⟩ := hrel;have A2 := A.below K (by omega);have V2 := V.later K;have bt := V.bt;replace hTl : Hid _ := hTl;by_cases hlt : k < x.two.length
   ·
    obtain ⟨b, off, hat, hcell⟩ := V.t (by omega);have hbl : b < y.heap.size := V.t.lt BC (by omega) _ hat (by omega);obtain ⟨d, hd⟩ : ∃ d, x.two.getD k AD.nil = d := ⟨_, rfl⟩;have hvl := V2.l k hlt;have hll := V2.bl k hlt;have hnl := hnL k hlt;rw [hd] at hvl hll hnl;have hck : ∀ Y, Below y.heap.size wr Y → BL Y b (off + k * 7) d := fun Y hY => by have ht := (V.t.below (K.trans hY) (V.t.lt BC (by omega))); rw [hat] at ht; rw [← hd]; exact CZ (ht.at_ BC AD.nil hlt)
    have ks := K.size;obtain ⟨a0, a1, a2, a3, a4, a5, a6, a7, a8, a9⟩ := id A2;rw [hat] at a5;go_upto_region 5 with fail
    clear a0 a1 a2 a3 a4 a5 a6 a7 a8 a9;refine An (fun Y => Below y.heap.size wr Y) fun u0 kd => ?_
    have hc0 : Below y.heap.size wr u0 := kd.mono ks;have Q := Q.below kd Q.lt;have O := O.later kd;have hvl := hvl.below kd (hvl.lt Av (by omega));have zd := kd.size;have ql := Q.lt;clear kd;refine tw 0 35 (.pointer (some (ja q 5))) ?_;refine tw 2 37 (.pointer (some (ja w.heap.size 5))) ?_;refine tw 3 38 (.slice (some (ja b off)) x.two.length x.cT) ?_ (hy := by intro Y hSw; have X := (A2.below hSw (by omega)).all; rw [hat] at X; go_simp);refine tw 4 39 (ji (k : Int)) ?_;refine tw 5 40 (.pointer (some ⟨b, off + k * 7, none⟩)) ?_ (hy := by intro Y hSw; go_simp; try omega);refine tw 6 41 (.agg (mc d.m d.ad d.cap)) ?_ (hy := by intro Y hSw; have X := (hck Y hSw).all; go_simp);have li3 : ∀ g_, (Value.slice d3 x.ln.length e3).ownBlock = some g_ → y.heap.size ≤ g_ ∧ g_ < u0.heap.size := fun g_ e => O.i.lt g_ e
    refine wpAnyH_all (rs := [1, 7]) (by kernel_rfl) (by simp) ?_;intro i hi; rcases (by simpa using hi : i = 1 ∨ i = 7) with rfl | rfl
    focus
     refine Ac rfl fun Kz hKz => ?_
     have c5 := Q.at_.c5;go_simp
     clear c5;refine hKz _ _ ⟨hc0, ?_⟩;clear hKz Kz hi;refine w1 7 fun Kz hKz => ?_
     go_simp
     go_at_call 126
     refine (Ex d.m d.ad d.cap u0 hvl (by omega) hnl).mono ?_;rintro e u1 ⟨a7, c7, rfl, O7, kq⟩;have hc1 : Below y.heap.size wr u1 := hc0.trans (kq.mono (by omega));have Q := Q.below kq Q.lt;have O := O.later kq;have zq1 := kq.size;have lo7 := O7.lt;clear kq;refine hKz _ _ ⟨hc1, ?_⟩;clear hKz Kz;refine w1 8 fun Kz hKz => ?_
     go_simp
     obtain ⟨u2, hu2, kq⟩ := AM u1 (Obj.cells (mc d.m a7 c7) 54);have VN : AI BG u2 (some (ja u1.heap.size 0)) [(⟨d.m, a7, c7⟩ : AD)] := by rw [hu2]; exact AI.oneD u1 _ ⟨d.m, a7, c7⟩
     have hc2 : Below y.heap.size wr u2 := hc1.trans (kq.mono (by omega));have Q := Q.below kq Q.lt;have O := O.later kq;have O7 := O7.later kq;have zq2 := kq.size;rw [← hu2];clear hu2 kq
    rotate_left;focus
     refine Ac rfl fun Kz hKz => ?_
     go_simp
     go_at_call 126
     refine (Ex d.m d.ad d.cap u0 hvl (by omega) hnl).mono ?_;rintro e u1 ⟨a7, c7, rfl, O7, kq⟩;have hc1 : Below y.heap.size wr u1 := hc0.trans (kq.mono (by omega));have Q := Q.below kq Q.lt;have O := O.later kq;have zq1 := kq.size;have lo7 := O7.lt;clear kq;refine hKz _ _ ⟨hc1, ?_⟩;clear hKz Kz hi;refine wpAnyH_all (rs := [1, 8]) (by kernel_rfl) (by simp) ?_;intro i hi; rcases (by simpa using hi : i = 1 ∨ i = 8) with rfl | rfl
     focus
      refine Ac rfl fun Kz hKz => ?_
      have c5 := Q.at_.c5;go_simp
      clear c5;refine hKz _ _ ⟨hc1, ?_⟩;clear hKz Kz hi;refine w1 8 fun Kz hKz => ?_
      go_simp
      obtain ⟨u2, hu2, kq⟩ := AM u1 (Obj.cells (mc d.m a7 c7) 54);have VN : AI BG u2 (some (ja u1.heap.size 0)) [(⟨d.m, a7, c7⟩ : AD)] := by rw [hu2]; exact AI.oneD u1 _ ⟨d.m, a7, c7⟩
      have hc2 : Below y.heap.size wr u2 := hc1.trans (kq.mono (by omega));have Q := Q.below kq Q.lt;have O := O.later kq;have O7 := O7.later kq;have zq2 := kq.size;rw [← hu2];clear hu2 kq
     rotate_left;focus
      refine Ac rfl fun Kz hKz => ?_
      go_simp
      obtain ⟨u2, hu2, kq⟩ := AM u1 (Obj.cells (mc d.m a7 c7) 54);have VN : AI BG u2 (some (ja u1.heap.size 0)) [(⟨d.m, a7, c7⟩ : AD)] := by rw [hu2]; exact AI.oneD u1 _ ⟨d.m, a7, c7⟩
      have hc2 : Below y.heap.size wr u2 := hc1.trans (kq.mono (by omega));have Q := Q.below kq Q.lt;have O := O.later kq;have O7 := O7.later kq;have zq2 := kq.size;rw [← hu2];clear hu2 kq;refine hKz _ _ ⟨hc2, ?_⟩;clear hKz Kz hi;refine w1 1 fun Kz hKz => ?_
      have c5 := Q.at_.c5;go_simp
      clear c5
     rotate_left
    rotate_left 2;all_goals
     refine hKz _ _ ⟨hc2, ?_⟩;clear hKz Kz;refine w1 9 fun Kz hKz => ?_
     refine CC BC JA 44 _ _ 58 rfl rfl y.heap.size 54 i5 (.agg #[.bool false, ji 0, ji 0, .slice none 0 0, ji 0, ji 0, ji 0]) 72 underlying58 hi5 hz50 hz51 hz52 rfl (by decide) (by decide) (.slice aT T.length cT) T rfl O.t (some (ja u1.heap.size 0)) 1 [(⟨d.m, a7, c7⟩ : AD)] rfl (fun e => by cases e) VN (by have := hTl.out; simp; omega) (by omega) ?_;intro vN u3 oN gN hob;have kb : ∀ k_, k_ < u2.heap.size → (Value.slice aT T.length cT).ownBlock ≠ some k_ → u3.heap[k_]? = u2.heap[k_]? := fun k_ hk_ he => gN.block k_ hk_ (fun e => he e.symm)
     have lon : ∀ g_, vN.ownBlock = some g_ → q < g_ := fun g_ e => hob.elim (fun h => by rw [h] at e; exact loT g_ e) (fun h => by rw [h] at e; have e2 := Option.some.inj e; omega)
     have Q := Q.keep (kb q Q.lt (fun e => by have := loT q e; omega));have hc3 : Below y.heap.size wr u3 := hc2.grown gN (by omega) (fun j e => (O.t.lt j e).1);have o1 := O.n.keep (fun g_ e => kb g_ (O.n.lt g_ e).2 (fun e2 => O.t.apart O.n (by decide) e2 e));have o2 := O.g.keep (fun g_ e => kb g_ (O.g.lt g_ e).2 (fun e2 => O.t.apart O.g (by decide) e2 e));have o3 := O.i.keep (fun g_ e => kb g_ (O.i.lt g_ e).2 (fun e2 => O.t.apart O.i (by decide) e2 e));have o4 := O.s.keep (fun g_ e => kb g_ (O.s.lt g_ e).2 (fun e2 => O.t.apart O.s (by decide) e2 e));have o5 : ∀ j, j < T.length → AA AW 8 27 y.heap.size u3 (.slice (T.getD j AD.nil).ad (T.getD j AD.nil).m.lg.length (T.getD j AD.nil).cap) (T.getD j AD.nil).m.lg := fun j hj => (O.l j hj).keep (fun g_ e => kb g_ ((O.l j hj).lt g_ e).2 (fun e2 => O.t.apart (O.l j hj) (by decide) e2 e))
     have o7 := O7.keep (fun g_ e => kb g_ (O7.lt g_ e).2 (fun e2 => O.t.apart O7 (by decide) e2 e));have zN := gN.size;obtain ⟨TN, hTN⟩ := AC (T ++ [(⟨d.m, a7, c7⟩ : AD)]);rw [← hTN] at oN;obtain ⟨aN, cN, rfl⟩ := oN.open_;replace hTN : Hid _ := hTN;have li := O.i.lt;have lap := O.ap;clear gN kb hob VN O O7;simp only [List.set_cons_zero, List.set_cons_succ];refine hKz _ _ ⟨hc3, ?_⟩;clear hKz Kz;refine tw 10 45 (.pointer (some (ja q 5))) ?_;refine w1 11 fun Kz hKz => ?_
     have c5 := Q.at_.c5;have f5 := Q.fr 5;go_simp
     clear c5 f5;obtain ⟨u4, hu4⟩ := AC (u3.setCell (ja q 5) (.slice aN TN.length cN));have Q4 : AS u4 q ⟨x.id, x.po, x.rg, TN, aN, cN, x.net, d1, e1, x.ga, d2, e2, x.ln, d3, e3, x.sd, d4, e4⟩ := by rw [hu4]; exact Q.two TN aN cN
     have kp : ∀ k_, k_ ≠ q → u4.heap[k_]? = u3.heap[k_]? := fun k_ hk_ => by rw [hu4]; exact AE hk_
     have hc4 : Below y.heap.size wr u4 := by rw [hu4]; exact hc3.setCell (p := (ja q 5)) lq _
     have O4 : AL y.heap.size u4 ⟨x.id, x.po, x.rg, TN, aN, cN, x.net, d1, e1, x.ga, d2, e2, x.ln, d3, e3, x.sd, d4, e4⟩ := ⟨oN.keep (fun g_ e => kp g_ (by have := lon g_ e; omega)), fun j hj => HA T ⟨d.m, a7, c7⟩ hTN.out (fun z => AA AW 8 27 y.heap.size u4 (.slice z.ad z.m.lg.length z.cap) z.m.lg) (fun j hj => (o5 j hj).keep (fun g_ e => kp g_ (by have := loL j (by rw [← hTl.out]; exact hj) g_ e; omega))) ((o7.base (by omega)).keep (fun g_ e => kp g_ (by have := lo7 g_ e; omega))) j hj, o1.keep (fun g_ e => kp g_ (fun e2 => z1 (by rw [e, e2]))), o2.keep (fun g_ e => kp g_ (fun e2 => z2 (by rw [e, e2]))), o3.keep (fun g_ e => kp g_ (fun e2 => z3 (by rw [e, e2]))), o4.keep (fun g_ e => kp g_ (fun e2 => z4 (by rw [e, e2]))), fun j hj => HA T ⟨d.m, a7, c7⟩ hTN.out (fun z => ∀ g_, (Value.slice z.ad z.m.lg.length z.cap).ownBlock = some g_ → (Value.slice d3 x.ln.length e3).ownBlock ≠ some g_) (fun j hj => lap j hj) (fun g_ e e2 => by have := (lo7 g_ e).1; have := (li3 g_ e2).2; omega) j hj⟩;rw [← hu4];clear hu4 kp Q o1 o2 o3 o4 o5 o7 oN;refine hKz _ _ ⟨hc4, ?_⟩;clear hKz Kz;refine Ag ?_;have K4 := K.trans hc4;have loL4 : ∀ j, j < k + 1 → ∀ g_, (Value.slice (TN.getD j AD.nil).ad (TN.getD j AD.nil).m.lg.length (TN.getD j AD.nil).cap).ownBlock = some g_ → q < g_ := fun j hj => HA T ⟨d.m, a7, c7⟩ hTN.out (fun z => ∀ g_, (Value.slice z.ad z.m.lg.length z.cap).ownBlock = some g_ → q < g_) (fun j hj => loL j (by rw [← hTl.out]; exact hj)) (fun g_ e => by have := (lo7 g_ e).1; omega) j (by rw [hTN.out]; have := hTl.out; simp; omega)
     have hTm4 : ∀ j, j < k + 1 → (TN.getD j AD.nil).m = (x.two.getD j AD.nil).m := Lq hTN.out hTl.out hTm hd rfl;have hTl4 : TN.length = k + 1 := by rw [hTN.out]; have := hTl.out; simp; omega
     replace hTl4 : Hid _ := hTl4;go_wp2
     go_roundw
     case rel => refine ⟨k + 1, by omega, by go_num, TN, hTl4.out, hTm4, aN, cN, Q4, O4, lon, loL4⟩
     case measure => simp [intOf]; omega
   obtain rfl : k = x.two.length := by omega
   have RZ := RZ.below K (by omega);have O9 : AL w.heap.size ((((((((((wr.setCell ⟨(w.heap.size + 1), 0, none⟩ (ji x.id)).setCell ⟨(w.heap.size + 1), 1, none⟩ (ji x.po)).setCell ⟨(w.heap.size + 1), 2, none⟩ (ji x.rg.ep)).setCell ⟨(w.heap.size + 1), 3, none⟩ (ji x.rg.ow)).setCell ⟨(w.heap.size + 1), 4, none⟩ (ji x.rg.pa)).setCell ⟨(w.heap.size + 1), 5, none⟩ (.slice aT T.length cT)).setCell ⟨(w.heap.size + 1), 6, none⟩ (.slice d1 x.net.length e1)).setCell ⟨(w.heap.size + 1), 7, none⟩ (.slice d2 x.ga.length e2)).setCell ⟨(w.heap.size + 1), 8, none⟩ (.slice d3 x.ln.length e3)).setCell ⟨(w.heap.size + 1), 9, none⟩ (.slice d4 x.sd.length e4)) ⟨x.id, x.po, x.rg, T, aT, cT, x.net, d1, e1, x.ga, d2, e2, x.ln, d3, e3, x.sd, d4, e4⟩ := (O.keep (fun g_ h1_ _ => Ak wr (w.heap.size + 1) g_ ⟨x.id, x.po, x.rg, T, aT, cT, x.net, d1, e1, x.ga, d2, e2, x.ln, d3, e3, x.sd, d4, e4⟩ (by omega))).base (by omega);have B9 : Bw w ((((((((((wr.setCell ⟨(w.heap.size + 1), 0, none⟩ (ji x.id)).setCell ⟨(w.heap.size + 1), 1, none⟩ (ji x.po)).setCell ⟨(w.heap.size + 1), 2, none⟩ (ji x.rg.ep)).setCell ⟨(w.heap.size + 1), 3, none⟩ (ji x.rg.ow)).setCell ⟨(w.heap.size + 1), 4, none⟩ (ji x.rg.pa)).setCell ⟨(w.heap.size + 1), 5, none⟩ (.slice aT T.length cT)).setCell ⟨(w.heap.size + 1), 6, none⟩ (.slice d1 x.net.length e1)).setCell ⟨(w.heap.size + 1), 7, none⟩ (.slice d2 x.ga.length e2)).setCell ⟨(w.heap.size + 1), 8, none⟩ (.slice d3 x.ln.length e3)).setCell ⟨(w.heap.size + 1), 9, none⟩ (.slice d4 x.sd.length e4)) := CO (q := w.heap.size + 1) ⟨x.id, x.po, x.rg, T, aT, cT, x.net, d1, e1, x.ga, d2, e2, x.ln, d3, e3, x.sd, d4, e4⟩ (AG B0 K) (by omega);have hp9 : AF.p ⟨x.id, x.po, x.rg, T, aT, cT, x.net, d1, e1, x.ga, d2, e2, x.ln, d3, e3, x.sd, d4, e4⟩ = x.p := by unfold AF.p; rw [show T.map AD.m = x.two.map AD.m from LR hTl.out hTm]
   have hl9 := hTl.out;obtain ⟨⟨r0, r1, r2, r3, r4, r5, r6, r7, r8, r9⟩, rf⟩ := RZ;dsimp only [AF.zero] at r0 r1 r2 r3 r4 r5 r6 r7 r8 r9;obtain ⟨g0, g1, g2, g3, g4, g5, g6, g7, g8, g9⟩ := CX rf;obtain ⟨⟨s0, s1, s2, s3, s4, s5, s6, s7, s8, s9⟩, sf⟩ := Q;clear rf sf;replace A2 := A2.all;replace hp9 : Hid _ := hp9;replace hl9 : Hid _ := hl9;clear O hTm loT loL;go_wp2
   refine bodyPost_ret (v := .agg #[ji x.id, ji x.po, ji x.rg.ep, ji x.rg.ow, ji x.rg.pa, .slice aT T.length cT, .slice d1 x.net.length e1, .slice d2 x.ga.length e2, .slice d3 x.ln.length e3, .slice d4 x.sd.length e4]) (by simp [results, results133, go_sem, *]) rfl ⟨⟨x.id, x.po, x.rg, T, aT, cT, x.net, d1, e1, x.ga, d2, e2, x.ln, d3, e3, x.sd, d4, e4⟩, rfl, hp9.out, hl9.out, O9, B9⟩
 exact ⟨false, false, false, false, false, false, false, false, false, false, undef, undef, undef, undef, undef, undef, undef, undef, undef, undef, rfl, rfl, rfl, ⟨hb0, .inl ⟨rfl, rfl, rfl, rfl⟩, .inl ⟨rfl, rfl, rfl, rfl⟩, .inl ⟨rfl, rfl, rfl, rfl⟩, .inl ⟨rfl, rfl, rfl, rfl⟩, (fun h => by cases h), (fun h => by cases h), (fun h => by cases h), (fun h => by cases h), .inl ⟨rfl, rfl⟩, .inl ⟨rfl, rfl⟩⟩⟩
end Go.Proofs.YtjmnaeeknomiaaaGreatDoor
