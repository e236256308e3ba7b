import Derived.Test.YtnpiljegdiconaaQKBxd3
import Derived.Test.YtnpiljegdiconaaQKBxd2
namespace Go.Proofs.Ytnpiljegdiconaa
open Go.ChangeShapes Go.WideShapes Go.ChangeAt Go.RowKit
open Go.ChangeMaps (open_string shut_string)
set_option linter.unusedVariables false
set_option maxRecDepth 100000
theorem FOwn.notZ {X : Type} {enc : X → List Value} {n : Nat} {T : TypeId} {base : Nat} {w : World} {v : Value} {L : List X} (h : FOwn enc n T base w v L) {q : Nat} (hz : ZBx w q) (hT : T ≠ 79) : v.ownBlock ≠ some q := by
 intro e
 rcases h.2 with ⟨q1, _⟩ | ⟨g1, c1, u1, q1, _, o1, _⟩
 ·
  rw [q1] at e; cases e
 ·
  rw [q1] at e
  cases e
  unfold ZBx at hz
  rw [hz] at o1
  simp only [Option.some.injEq, Obj.cells.injEq] at o1
  exact hT o1.2.1.symm
theorem cpN_zero : ∀ (b1 a1 b2 a2 b3 a3 b4 a4 al c : Bool), cpN b1 a1 b2 a2 b3 a3 b4 a4 al c = 0 → b1 = true ∧ a1 = true ∧ b2 = true ∧ a2 = true ∧ b3 = true ∧ a3 = true ∧ b4 = true ∧ a4 = true ∧ al = true ∧ c = true := by
 intro b1 a1 b2 a2 b3 a3 b4 a4 al c h
 unfold cpN at h
 cases b1 <;> cases a1 <;> cases b2 <;> cases a2 <;> cases b3 <;> cases a3 <;> cases b4 <;> cases a4 <;> cases al <;> cases c <;> first | (cases h; done) | exact ⟨rfl, rfl, rfl, rfl, rfl, rfl, rfl, rfl, rfl, rfl⟩
theorem cpR_ne : ∀ (b1 a1 b2 a2 b3 a3 b4 a4 al c : Bool), (a2 = true → a1 = true) → (a3 = true → a2 = true) → (a4 = true → a3 = true) → (c = true → a4 = true) → cpN b1 a1 b2 a2 b3 a3 b4 a4 al c ≠ 0 → cpR b1 a1 b2 a2 b3 a3 b4 a4 al c ≠ [] := of_decide_eq_true (by kernel_rfl)
theorem FOwn.capM {X : Type} {enc : X → List Value} {n : Nat} {T : TypeId} {base : Nat} {w : World} {ad : Option Addr} {cap : Nat} {L : List X} (h : FOwn enc n T base w (.slice ad L.length cap) L) : L.length ≤ cap := by
 rcases h.2 with ⟨e, h0⟩ | ⟨g, c, cur, e, _, _, hc, _⟩
 ·
  omega
 ·
  simp only [Value.slice.injEq] at e
  omega
def MiD.v (d : MiD) : Value := .slice d.ad d.m.lg.length d.cap
structure MV (w : World) (ad : Option Addr) (Bs : List MiD) : Prop where
 row : FView mdEnc w ad Bs
 nest : ∀ i, i < Bs.length → FView ikEnc w (Bs.getD i MiD.nil).ad (Bs.getD i MiD.nil).m.lg
 nil0 : ∀ i, i < Bs.length → (Bs.getD i MiD.nil).ad = none → (Bs.getD i MiD.nil).cap = 0
theorem MV.below {w w' : World} {ad : Option Addr} {Bs : List MiD} {B : Nat} (h : MV w ad Bs) (k : Below B w w') (hB : w.heap.size ≤ B) : MV w' ad Bs :=
 ⟨h.row.below k (fun a e p => Nat.lt_of_lt_of_le (h.row.lt mdEnc_len (by omega) a e p) hB), fun i hi => (h.nest i hi).below k (fun a e p => Nat.lt_of_lt_of_le ((h.nest i hi).lt ikEnc_len (by omega) a e p) hB), h.nil0⟩
structure MOwn (lo hi : Nat) (w : World) (v : Value) (Bs : List MiD) : Prop where
 row : FOwn mdEnc 7 26 lo w v Bs
 nest : ∀ i, i < Bs.length → FOwn ikEnc 8 30 lo w (Bs.getD i MiD.nil).v (Bs.getD i MiD.nil).m.lg
 rhi : ∀ g, v.ownBlock = some g → g < hi
 nhi : ∀ i, i < Bs.length → ∀ g, (Bs.getD i MiD.nil).v.ownBlock = some g → g < hi
 apart : ∀ i, i < Bs.length → ∀ g h, v.ownBlock = some g → (Bs.getD i MiD.nil).v.ownBlock = some h → g ≠ h
 aparts : ∀ i j, i < j → j < Bs.length → ∀ g h, (Bs.getD i MiD.nil).v.ownBlock = some g → (Bs.getD j MiD.nil).v.ownBlock = some h → g ≠ h
theorem own_noneM {X : Type} {enc : X → List Value} {n : Nat} {T : TypeId} {base : Nat} {w : World} {len cap : Nat} {L : List X} (h : FOwn enc n T base w (.slice none len cap) L) : cap = 0 := by
 rcases h.2 with ⟨q, _⟩ | ⟨g, c, cur, q, _⟩
 ·
  simp only [Value.slice.injEq] at q
  exact q.2.2
 ·
  simp at q
theorem MOwn.view {lo hi : Nat} {w : World} {ad : Option Addr} {len cap : Nat} {Bs : List MiD} (h : MOwn lo hi w (.slice ad len cap) Bs) : len = Bs.length ∧ MV w ad Bs := by
 refine ⟨h.row.view.1, h.row.view.2, fun i hi => (h.nest i hi).view.2, fun i hi e => ?_⟩
 have := h.nest i hi
 unfold MiD.v at this
 rw [e] at this
 exact own_noneM this
theorem MOwn.wide {lo hi lo' hi' : Nat} {w : World} {v : Value} {Bs : List MiD} (h : MOwn lo hi w v Bs) (h1 : lo' ≤ lo) (h2 : hi ≤ hi') : MOwn lo' hi' w v Bs :=
 ⟨h.row.base h1, fun i hi => (h.nest i hi).base h1, fun g e => Nat.lt_of_lt_of_le (h.rhi g e) h2, fun i hi g e => Nat.lt_of_lt_of_le (h.nhi i hi g e) h2, h.apart, h.aparts⟩
theorem ZBx.box {w : World} {q : Nat} (h : ZBx w q) : BxB w q BxD.zero := by
 unfold ZBx at h
 refine ⟨⟨?_, ?_, ?_, ?_, ?_, ?_, ?_, ?_, ?_, ?_⟩, fun i => ?_⟩
 all_goals simp [World.cell?, World.frozen?, h, BxD.zero, go_sem]
theorem heap_put10 (w : World) (q k : Nat) (x : BxD) (h : k ≠ q) : (((((((((((w.setCell ⟨q, 0, none⟩ (.int .i64 x.id)).setCell ⟨q, 1, none⟩ (.int .i64 x.po)).setCell ⟨q, 2, none⟩ (.int .i64 x.rg.ep)).setCell ⟨q, 3, none⟩ (.int .i64 x.rg.ow)).setCell ⟨q, 4, none⟩ (.int .i64 x.rg.pa)).setCell ⟨q, 5, none⟩ (.slice x.aT x.two.length x.cT)).setCell ⟨q, 6, none⟩ (.slice x.aN x.net.length x.cN)).setCell ⟨q, 7, none⟩ (.slice x.aG x.ga.length x.cG)).setCell ⟨q, 8, none⟩ (.slice x.aL x.ln.length x.cL)).setCell ⟨q, 9, none⟩ (.slice x.aS x.sd.length x.cS))).heap[k]? = w.heap[k]? := by
 rw [Below.heap_setCell _ _ _ _ h, Below.heap_setCell _ _ _ _ h, Below.heap_setCell _ _ _ _ h, Below.heap_setCell _ _ _ _ h, Below.heap_setCell _ _ _ _ h, Below.heap_setCell _ _ _ _ h, Below.heap_setCell _ _ _ _ h, Below.heap_setCell _ _ _ _ h, Below.heap_setCell _ _ _ _ h, Below.heap_setCell _ _ _ _ h]
theorem below_put10 {a w : World} {q n : Nat} (x : BxD) (h : Below n a w) (hq : n ≤ q) : Below n a ((((((((((w.setCell ⟨q, 0, none⟩ (.int .i64 x.id)).setCell ⟨q, 1, none⟩ (.int .i64 x.po)).setCell ⟨q, 2, none⟩ (.int .i64 x.rg.ep)).setCell ⟨q, 3, none⟩ (.int .i64 x.rg.ow)).setCell ⟨q, 4, none⟩ (.int .i64 x.rg.pa)).setCell ⟨q, 5, none⟩ (.slice x.aT x.two.length x.cT)).setCell ⟨q, 6, none⟩ (.slice x.aN x.net.length x.cN)).setCell ⟨q, 7, none⟩ (.slice x.aG x.ga.length x.cG)).setCell ⟨q, 8, none⟩ (.slice x.aL x.ln.length x.cL)).setCell ⟨q, 9, none⟩ (.slice x.aS x.sd.length x.cS)) := ((((((((((h.setCell (p := ⟨q, 0, none⟩) hq _).setCell (p := ⟨q, 1, none⟩) hq _).setCell (p := ⟨q, 2, none⟩) hq _).setCell (p := ⟨q, 3, none⟩) hq _).setCell (p := ⟨q, 4, none⟩) hq _).setCell (p := ⟨q, 5, none⟩) hq _).setCell (p := ⟨q, 6, none⟩) hq _).setCell (p := ⟨q, 7, none⟩) hq _).setCell (p := ⟨q, 8, none⟩) hq _).setCell (p := ⟨q, 9, none⟩) hq _)
theorem FView.oneD (w : World) (t : TypeId) (x : MiD) : FView mdEnc (w.alloc (Obj.cells #[.bool x.m.up, .int .i64 x.m.li, .int .i64 x.m.ep, .slice x.ad x.m.lg.length x.cap, .int .i64 x.m.sd, .int .i64 x.m.ac, .int .i64 x.m.al] t)) (some ⟨w.heap.size, 0, none⟩) [x] := by
 intro _
 refine ⟨w.heap.size, 0, rfl, fun j v hv => ?_⟩
 simp only [fcells, mdEnc, List.append_nil] at hv
 have hj : j < 7 := (List.getElem?_eq_some_iff.1 hv).1
 rcases (by omega : j = 0 ∨ j = 1 ∨ j = 2 ∨ j = 3 ∨ j = 4 ∨ j = 5 ∨ j = 6) with rfl | rfl | rfl | rfl | rfl | rfl | rfl <;> (cases hv; simp [go_sem])
theorem mdInfo : (Try.prog.info? 26).map (fun i => (i.zero, i.size, i.bytes)) = some (some (.agg #[.bool false, .int .i64 0, .int .i64 0, .slice none 0 0, .int .i64 0, .int .i64 0, .int .i64 0]), 7, 72) := by kernel_rfl
structure BxO (base : Nat) (w : World) (x : BxD) : Prop where
 t : FOwn mdEnc 7 26 base w (.slice x.aT x.two.length x.cT) x.two
 l : ∀ i, i < x.two.length → FOwn ikEnc 8 30 base w (.slice (x.two.getD i MiD.nil).ad (x.two.getD i MiD.nil).m.lg.length (x.two.getD i MiD.nil).cap) (x.two.getD i MiD.nil).m.lg
 n : FOwn wiEnc 12 125 base w (.slice x.aN x.net.length x.cN) x.net
 g : FOwn boEnc 1 4 base w (.slice x.aG x.ga.length x.cG) x.ga
 i : FOwn ikEnc 8 30 base w (.slice x.aL x.ln.length x.cL) x.ln
 s : FOwn ouEnc 8 135 base w (.slice x.aS x.sd.length x.cS) x.sd
 ap : ∀ j, j < x.two.length → ∀ g, (Value.slice (x.two.getD j MiD.nil).ad (x.two.getD j MiD.nil).m.lg.length (x.two.getD j MiD.nil).cap).ownBlock = some g → (Value.slice x.aL x.ln.length x.cL).ownBlock ≠ some g
theorem BxO.later {base : Nat} {w w' : World} {x : BxD} (h : BxO base w x) (k : Below w.heap.size w w') : BxO base w' x :=
 ⟨h.t.later k, fun i hi => (h.l i hi).later k, h.n.later k, h.g.later k, h.i.later k, h.s.later k, h.ap⟩
theorem BxO.base {b1 b2 : Nat} {w : World} {x : BxD} (h : BxO b1 w x) (hb : b2 ≤ b1) : BxO b2 w x :=
 ⟨h.t.base hb, fun i hi => (h.l i hi).base hb, h.n.base hb, h.g.base hb, h.i.base hb, h.s.base hb, h.ap⟩
theorem BxO.keep {base : Nat} {w w' : World} {x : BxD} (h : BxO base w x) (k : ∀ g, base ≤ g → g < w.heap.size → w'.heap[g]? = w.heap[g]?) : BxO base w' x :=
 ⟨h.t.keep (fun g e => k g (h.t.lt g e).1 (h.t.lt g e).2), fun i hi => (h.l i hi).keep (fun g e => k g ((h.l i hi).lt g e).1 ((h.l i hi).lt g e).2), h.n.keep (fun g e => k g (h.n.lt g e).1 (h.n.lt g e).2), h.g.keep (fun g e => k g (h.g.lt g e).1 (h.g.lt g e).2), h.i.keep (fun g e => k g (h.i.lt g e).1 (h.i.lt g e).2), h.s.keep (fun g e => k g (h.s.lt g e).1 (h.s.lt g e).2), h.ap⟩
theorem BxO.view {base : Nat} {w : World} {x : BxD} (h : BxO base w x) (bt : x.two.length ≤ 1048576) (bl : ∀ i, i < x.two.length → (x.two.getD i MiD.nil).m.lg.length ≤ 1048576) (bn : x.net.length ≤ 1048576) (bg : x.ga.length ≤ 1048576) (bi : x.ln.length ≤ 1048576) (bs : x.sd.length ≤ 1048576) : BxV w x :=
 ⟨h.t.view.2, fun i hi => (h.l i hi).view.2, h.n.view.2, h.g.view.2, h.i.view.2, h.s.view.2, bt, bl, bn, bg, bi, bs, h.t.capM⟩
theorem zten {w : World} {q : Nat} (h : BxB w q BxD.zero) : w.cell? ⟨q, 0, none⟩ = some (.int .i64 0) ∧ w.cell? ⟨q, 1, none⟩ = some (.int .i64 0) ∧ w.cell? ⟨q, 2, none⟩ = some (.int .i64 0) ∧ w.cell? ⟨q, 3, none⟩ = some (.int .i64 0) ∧ w.cell? ⟨q, 4, none⟩ = some (.int .i64 0) ∧ w.cell? ⟨q, 5, none⟩ = some (.slice none 0 0) ∧ w.cell? ⟨q, 6, none⟩ = some (.slice none 0 0) ∧ w.cell? ⟨q, 7, none⟩ = some (.slice none 0 0) ∧ w.cell? ⟨q, 8, none⟩ = some (.slice none 0 0) ∧ w.cell? ⟨q, 9, none⟩ = some (.slice none 0 0) ∧ w.frozen? ⟨q, 0, none⟩ = false ∧ w.frozen? ⟨q, 1, none⟩ = false ∧ w.frozen? ⟨q, 2, none⟩ = false ∧ w.frozen? ⟨q, 3, none⟩ = false ∧ w.frozen? ⟨q, 4, none⟩ = false ∧ w.frozen? ⟨q, 5, none⟩ = false ∧ w.frozen? ⟨q, 6, none⟩ = false ∧ w.frozen? ⟨q, 7, none⟩ = false ∧ w.frozen? ⟨q, 8, none⟩ = false ∧ w.frozen? ⟨q, 9, none⟩ = false := by
 obtain ⟨⟨r0, r1, r2, r3, r4, r5, r6, r7, r8, r9⟩, rf⟩ := h
 exact ⟨r0, r1, r2, r3, r4, r5, r6, r7, r8, r9, rf 0, rf 1, rf 2, rf 3, rf 4, rf 5, rf 6, rf 7, rf 8, rf 9⟩
theorem MdAtO.below {w w' : World} {q o n : Nat} {x : MiD} (h : MdAtO w q o x) (k : Below n w w') (hq : q < n) : MdAtO w' q o x :=
 ⟨(World.cell?_of_block (a := ⟨q, o, none⟩) (k.block q hq)).trans h.c0, (World.cell?_of_block (a := ⟨q, o + 1, none⟩) (k.block q hq)).trans h.c1, (World.cell?_of_block (a := ⟨q, o + 2, none⟩) (k.block q hq)).trans h.c2, (World.cell?_of_block (a := ⟨q, o + 3, none⟩) (k.block q hq)).trans h.c3, (World.cell?_of_block (a := ⟨q, o + 4, none⟩) (k.block q hq)).trans h.c4, (World.cell?_of_block (a := ⟨q, o + 5, none⟩) (k.block q hq)).trans h.c5, (World.cell?_of_block (a := ⟨q, o + 6, none⟩) (k.block q hq)).trans h.c6⟩
theorem dec40 (n : Nat) : (true && (true && (true && (true && (true && (true && decide (n ≤ 40))))))) = decide ((n : Int) ≤ 40) := by
 by_cases h : n ≤ 40
 ·
  rw [decide_eq_true h, decide_eq_true (show (n : Int) ≤ 40 by omega)]; rfl
 ·
  rw [decide_eq_false h, decide_eq_false (show ¬ (n : Int) ≤ 40 by omega)]; rfl
set_option maxHeartbeats 8000000 in
theorem boxOkS (x : BxD) (w : World) (hV : BxV w x) :
  Calls Try.prog 53 #[.agg #[.int .i64 x.id, .int .i64 x.po, .int .i64 x.rg.ep, .int .i64 x.rg.ow, .int .i64 x.rg.pa, .slice x.aT x.two.length x.cT, .slice x.aN x.net.length x.cN, .slice x.aG x.ga.length x.cG, .slice x.aL x.ln.length x.cL, .slice x.aS x.sd.length x.cS]] w fun e w' => e = .returned (.bool (bxOk x.p)) ∧ Below w.heap.size w w' := by
 obtain ⟨R, hR⟩ := mk_ (bxOk x.p)
 rw [← hR]
 replace hR : Hid _ := hR
 obtain ⟨y, hy⟩ := mk_ (w.alloc (Obj.cells #[.int .i64 x.id, .int .i64 x.po, .int .i64 x.rg.ep, .int .i64 x.rg.ow, .int .i64 x.rg.pa, .slice x.aT x.two.length x.cT, .slice x.aN x.net.length x.cN, .slice x.aG x.ga.length x.cG, .slice x.aL x.ln.length x.cL, .slice x.aS x.sd.length x.cS] 79))
 have B0 : Below w.heap.size w y := by rw [hy]; exact below_new _
 have A : BxAt y w.heap.size x := by rw [hy]; exact BxAt.new w _ x
 have V := hV.later B0
 go_enter Try.func53, Try.ntmps53
 have cc := A
 obtain ⟨a0, a1, a2, a3, a4, a5, a6, a7, a8, a9⟩ := cc
 go_wp2_with fail
 go_at_call 54
 rw [← hy]
 clear hy hV a0 a1 a2 a3 a4 a5 a6 a7 a8 a9
 refine (newBS x.id x.po y).mono ?_
 rintro e u1 ⟨ab, cb, rfl, _, k1⟩
 have A := A.below k1 A.lt
 have V := V.later k1
 have B1 := B0.trans (k1.mono B0.size)
 clear k1 B0
 obtain ⟨u2, hu2⟩ := mk_ (u1.alloc (Obj.cells #[.int .i64 (newI x.id x.po), .slice ab (newL x.id x.po).length cb] 110))
 have k2 : Below u1.heap.size u1 u2 := by rw [hu2]; exact below_new _
 have A := A.below k2 A.lt
 have V := V.later k2
 have B2 := B1.trans (k2.mono B1.size)
 go_upto_region 2 with fail
 rw [← hu2]
 clear hu2 k2 B1
 cases h1 : nOk x.id x.po
 ·
  have hN : Hid (R = false) := by unfold Hid; rw [hR.out]; unfold bxOk; rw [show nOk x.p.id x.p.po = _ from h1]; rfl
  go_wp2
  go_ret
  exact ⟨by rw [hN.out]; rfl, B2⟩
 ·
  replace h1 : Hid _ := h1
  have cc := A
  obtain ⟨a0, a1, a2, a3, a4, a5, a6, a7, a8, a9⟩ := cc
  go_wp2_with fail
  go_at_call 63
  clear a0 a1 a2 a3 a4 a5 a6 a7 a8 a9
  refine (regOkS x.rg u2).mono ?_
  rintro e u3 ⟨rfl, k3⟩
  have A := A.below k3 A.lt
  have V := V.later k3
  have B3 := B2.trans (k3.mono B2.size)
  clear k3 B2
  cases h2 : rgOk x.rg
  ·
   have hN : Hid (R = false) := by unfold Hid; rw [hR.out]; unfold bxOk; rw [show nOk x.p.id x.p.po = _ from h1.out, show rgOk x.p.rg = _ from h2]; rfl
   clear h2
   go_wp2
   go_ret
   exact ⟨by rw [hN.out]; rfl, B3⟩
  ·
   replace h2 : Hid _ := h2
   by_cases h3 : x.two.length = 2
   ·
    have d3 : ((x.two.length : Int) != 2) = false := by rw [bne_eq_false_iff_eq]; omega
    have h3' : Hid (decide (x.two.length = 2) = true) := decide_eq_true h3
    replace h3 : Hid (decide (x.p.two.length = 2) = true) := decide_eq_true (by rw [p_two_len]; exact of_decide_eq_true h3'.out)
    have h3n : 1 < x.two.length := by have := of_decide_eq_true h3'.out; omega
    clear h3'
    obtain ⟨d, hd⟩ : ∃ d, x.two.getD 0 MiD.nil = d := ⟨_, rfl⟩
    obtain ⟨d2, hd2⟩ : ∃ d, x.two.getD 1 MiD.nil = d := ⟨_, rfl⟩
    have vl1 := V.l 0 (by omega)
    have vl2 := V.l 1 h3n
    have ll1 := V.bl 0 (by omega)
    have ll2 := V.bl 1 h3n
    rw [hd] at vl1 ll1
    rw [hd2] at vl2 ll2
    have m0 : Hid (mOf x.p 0 = d.m) := by unfold Hid; rw [mOf_p]; show (x.two.getD 0 MiD.nil).m = _; rw [hd]
    have m1 : Hid (mOf x.p 1 = d2.m) := by unfold Hid; rw [mOf_p]; show (x.two.getD 1 MiD.nil).m = _; rw [hd2]
    obtain ⟨b, off, hat, _⟩ := V.t (by omega)
    have hc0 : MdAtO u3 b off d := by have ht := V.t; rw [hat] at ht; have := mdAtO_of (ht.at_ mdEnc_len MiD.nil (show 0 < x.two.length by omega)); rw [hd, Nat.zero_mul, Nat.add_zero] at this; exact this
    have hc1 : MdAtO u3 b (off + 7) d2 := by have ht := V.t; rw [hat] at ht; have := mdAtO_of (ht.at_ mdEnc_len MiD.nil h3n); rw [hd2, Nat.one_mul] at this; exact this
    have hbl : b < u3.heap.size := World.block_lt_of_cell? _ _ hc0.c0
    replace hat : Hid _ := hat
    replace hd : Hid _ := hd
    replace hd2 : Hid _ := hd2
    have cc := A
    obtain ⟨a0, a1, a2, a3, a4, a5, a6, a7, a8, a9⟩ := cc
    rw [hat.out] at a5
    have cc := hc0
    obtain ⟨e0, e1, e2, e3, e4, e5, e6⟩ := cc
    go_wp2_with fail
    go_at_call 14
    clear a0 a1 a2 a3 a4 a5 a6 a7 a8 a9 e0 e1 e2 e3 e4 e5 e6 d3
    refine (miOkS d.m d.ad d.cap u3 vl1 (by omega)).mono ?_
    rintro e u5 ⟨rfl, k5⟩
    have vl2 := vl2.below k5 (vl2.lt ikEnc_len (by omega))
    have hc1 : MdAtO u5 b (off + 7) d2 := hc1.below k5 hbl
    have A := A.below k5 A.lt
    have V := V.later k5
    have B5 := B3.trans (k5.mono B3.size)
    clear k5 B3
    cases h4 : miOk d.m
    ·
     have hN : Hid (R = false) := by unfold Hid; rw [hR.out]; unfold bxOk; rw [show nOk x.p.id x.p.po = _ from h1.out, show rgOk x.p.rg = _ from h2.out, h3.out, show miOk (mOf x.p 0) = false by rw [m0.out]; exact h4]; rfl
     clear h4
     go_wp2
     go_ret
     exact ⟨by rw [hN.out]; rfl, B5⟩
    ·
     replace h4 : Hid (miOk (mOf x.p 0) = true) := by unfold Hid; rw [m0.out]; exact h4
     have cc := A
     obtain ⟨a0, a1, a2, a3, a4, a5, a6, a7, a8, a9⟩ := cc
     rw [hat.out] at a5
     have cc := hc1
     obtain ⟨e0, e1, e2, e3, e4, e5, e6⟩ := cc
     go_wp2_with fail
     go_at_call 14
     clear a0 a1 a2 a3 a4 a5 a6 a7 a8 a9 e0 e1 e2 e3 e4 e5 e6
     refine (miOkS d2.m d2.ad d2.cap u5 vl2 (by omega)).mono ?_
     rintro e u6 ⟨rfl, k6⟩
     have A := A.below k6 A.lt
     have V := V.later k6
     have B6 := B5.trans (k6.mono B5.size)
     clear k6 B5
     cases h5 : miOk d2.m
     ·
      have hN : Hid (R = false) := by unfold Hid; rw [hR.out]; unfold bxOk; rw [show nOk x.p.id x.p.po = _ from h1.out, show rgOk x.p.rg = _ from h2.out, h3.out, h4.out, show miOk (mOf x.p 1) = false by rw [m1.out]; exact h5]; rfl
      clear h5
      go_wp2
      go_ret
      exact ⟨by rw [hN.out]; rfl, B6⟩
     ·
      replace h5 : Hid (miOk (mOf x.p 1) = true) := by unfold Hid; rw [m1.out]; exact h5
      have cc := A
      obtain ⟨a0, a1, a2, a3, a4, a5, a6, a7, a8, a9⟩ := cc
      go_wp2_with fail
      go_at_call 64
      clear a0 a1 a2 a3 a4 a5 a6 a7 a8 a9
      refine (netS x u6 V).mono ?_
      rintro e u7 ⟨rfl, k7⟩
      have A := A.below k7 A.lt
      have V := V.later k7
      have B7 := B6.trans (k7.mono B6.size)
      clear k7 B6
      cases h6 : x.net.all wiOk && decide (x.net.length ≤ 20)
      ·
       have h6' : (x.p.net.all wiOk && (decide (x.p.net.length ≤ 20) && (decide ((x.p.ga.length : Int) = x.p.po) && (insB x.p.ln && decide (x.p.sd.length ≤ 40))))) = false := by rw [← Bool.and_assoc, show (x.p.net.all wiOk && decide (x.p.net.length ≤ 20)) = false from h6]; rfl
       have hN : Hid (R = false) := by unfold Hid; rw [hR.out]; unfold bxOk; rw [show nOk x.p.id x.p.po = _ from h1.out, show rgOk x.p.rg = _ from h2.out, show decide (x.p.two.length = 2) = _ from h3.out, h4.out, h5.out, h6']; rfl
       clear h6 h6'
       go_wp2
       go_ret
       exact ⟨by rw [hN.out]; rfl, B7⟩
      ·
       replace h6 : Hid _ := h6
       have h6' : Hid (∀ t, (x.p.net.all wiOk && (decide (x.p.net.length ≤ 20) && t)) = t) := fun t => by rw [← Bool.and_assoc, show (x.p.net.all wiOk && decide (x.p.net.length ≤ 20)) = true from h6.out]; rfl
       by_cases h7 : (x.ga.length : Int) = x.po
       ·
        have d7 : ((x.ga.length : Int) == x.po) = true := by simpa using h7
        have h7' : Hid (decide ((x.p.ga.length : Int) = x.p.po) = true) := decide_eq_true h7
        replace h7 : Hid _ := h7
        have cc := A
        obtain ⟨a0, a1, a2, a3, a4, a5, a6, a7, a8, a9⟩ := cc
        go_wp2_with fail
        go_at_call 27
        clear a0 a1 a2 a3 a4 a5 a6 a7 a8 a9
        refine (insS x.aL x.cL x.ln u7 V.i (by have := V.bi; omega)).mono ?_
        rintro e u8 ⟨rfl, k8⟩
        have bs := V.bs
        have A := A.below k8 A.lt
        have V := V.later k8
        have B8 := B7.trans (k8.mono B7.size)
        clear k8 B7
        cases h8 : insB x.ln
        ·
         have hN : Hid (R = false) := by unfold Hid; rw [hR.out]; unfold bxOk; rw [show nOk x.p.id x.p.po = _ from h1.out, show rgOk x.p.rg = _ from h2.out, show decide (x.p.two.length = 2) = _ from h3.out, h4.out, h5.out, h6'.out, h7'.out, show insB x.p.ln = _ from h8]; rfl
         clear h8
         go_wp2
         go_ret
         exact ⟨by rw [hN.out]; rfl, B8⟩
        ·
         replace h8 : Hid _ := h8
         have cc := A
         obtain ⟨a0, a1, a2, a3, a4, a5, a6, a7, a8, a9⟩ := cc
         have hN : Hid (R = decide ((x.sd.length : Int) ≤ 40)) := by unfold Hid; rw [hR.out]; unfold bxOk; rw [show nOk x.p.id x.p.po = _ from h1.out, show rgOk x.p.rg = _ from h2.out, show decide (x.p.two.length = 2) = _ from h3.out, h4.out, h5.out, h6'.out, h7'.out, show insB x.p.ln = _ from h8.out]; exact dec40 x.sd.length
         go_wp2
         go_ret
         exact ⟨by rw [hN.out]; rfl, B8⟩
       ·
        have d7 : ((x.ga.length : Int) == x.po) = false := by rw [beq_eq_false_iff_ne]; exact h7
        have cc := A
        obtain ⟨a0, a1, a2, a3, a4, a5, a6, a7, a8, a9⟩ := cc
        have hN : Hid (R = false) := by unfold Hid; rw [hR.out]; unfold bxOk; rw [show nOk x.p.id x.p.po = _ from h1.out, show rgOk x.p.rg = _ from h2.out, show decide (x.p.two.length = 2) = _ from h3.out, h4.out, h5.out, h6'.out, show decide ((x.p.ga.length : Int) = x.p.po) = false from decide_eq_false h7]; rfl
        clear h7
        go_wp2
        go_ret
        exact ⟨by rw [hN.out]; rfl, B7⟩
   ·
    have d3 : ((x.two.length : Int) != 2) = true := by rw [bne_iff_ne]; omega
    have cc := A
    obtain ⟨a0, a1, a2, a3, a4, a5, a6, a7, a8, a9⟩ := cc
    have hN : Hid (R = false) := by unfold Hid; rw [hR.out]; unfold bxOk; rw [show nOk x.p.id x.p.po = _ from h1.out, show rgOk x.p.rg = _ from h2.out, show decide (x.p.two.length = 2) = false from decide_eq_false (by rw [p_two_len]; exact h3)]; rfl
    clear h3
    go_wp2
    go_ret
    exact ⟨by rw [hN.out]; rfl, B3⟩
theorem MdAtO.keep {w w' : World} {q o : Nat} {x : MiD} (h : MdAtO w q o x) (k : w'.heap[q]? = w.heap[q]?) : MdAtO w' q o x :=
 ⟨(World.cell?_of_block (a := ⟨q, _, none⟩) k).trans h.1, (World.cell?_of_block (a := ⟨q, _, none⟩) k).trans h.2, (World.cell?_of_block (a := ⟨q, _, none⟩) k).trans h.3, (World.cell?_of_block (a := ⟨q, _, none⟩) k).trans h.4, (World.cell?_of_block (a := ⟨q, _, none⟩) k).trans h.5, (World.cell?_of_block (a := ⟨q, _, none⟩) k).trans h.6, (World.cell?_of_block (a := ⟨q, _, none⟩) k).trans h.7⟩
set_option maxHeartbeats 4000000 in
theorem riseS (x : BxD) (w : World) (hV : BxV w x) (h2 : x.two.length = 2) (b0 : 0 ≤ (x.two.getD 0 MiD.nil).m.li ∧ (x.two.getD 0 MiD.nil).m.li ≤ 1000000000) (b1 : 0 ≤ (x.two.getD 1 MiD.nil).m.li ∧ (x.two.getD 1 MiD.nil).m.li ≤ 1000000000) :
  Calls Try.prog 72 #[.agg #[.int .i64 x.id, .int .i64 x.po, .int .i64 x.rg.ep, .int .i64 x.rg.ow, .int .i64 x.rg.pa, .slice x.aT x.two.length x.cT, .slice x.aN x.net.length x.cN, .slice x.aG x.ga.length x.cG, .slice x.aL x.ln.length x.cL, .slice x.aS x.sd.length x.cS]] w fun e w' => e = .returned (.agg #[.bool true, .int .i64 (max (x.two.getD 0 MiD.nil).m.li (x.two.getD 1 MiD.nil).m.li + 1), .int .i64 0, .slice none 0 0, .int .i64 0, .int .i64 0, .int .i64 0]) ∧ Below w.heap.size w w' := by
 have hbw : ∀ b off, x.aT = some ⟨b, off, none⟩ → b < w.heap.size := fun b off e => hV.t.lt mdEnc_len (by omega) _ e (by omega)
 obtain ⟨y, hy⟩ := mk_ ((w.alloc (Obj.cells #[.int .i64 x.id, .int .i64 x.po, .int .i64 x.rg.ep, .int .i64 x.rg.ow, .int .i64 x.rg.pa, .slice x.aT x.two.length x.cT, .slice x.aN x.net.length x.cN, .slice x.aG x.ga.length x.cG, .slice x.aL x.ln.length x.cL, .slice x.aS x.sd.length x.cS] 79)).alloc (Obj.cells #[.bool false, .int .i64 0, .int .i64 0, .slice none 0 0, .int .i64 0, .int .i64 0, .int .i64 0] 26))
 have k1 : Below w.heap.size w (w.alloc (Obj.cells #[.int .i64 x.id, .int .i64 x.po, .int .i64 x.rg.ep, .int .i64 x.rg.ow, .int .i64 x.rg.pa, .slice x.aT x.two.length x.cT, .slice x.aN x.net.length x.cN, .slice x.aG x.ga.length x.cG, .slice x.aL x.ln.length x.cL, .slice x.aS x.sd.length x.cS] 79)) := below_new _
 have k2 : Below (w.alloc (Obj.cells #[.int .i64 x.id, .int .i64 x.po, .int .i64 x.rg.ep, .int .i64 x.rg.ow, .int .i64 x.rg.pa, .slice x.aT x.two.length x.cT, .slice x.aN x.net.length x.cN, .slice x.aG x.ga.length x.cG, .slice x.aL x.ln.length x.cL, .slice x.aS x.sd.length x.cS] 79)).heap.size (w.alloc (Obj.cells #[.int .i64 x.id, .int .i64 x.po, .int .i64 x.rg.ep, .int .i64 x.rg.ow, .int .i64 x.rg.pa, .slice x.aT x.two.length x.cT, .slice x.aN x.net.length x.cN, .slice x.aG x.ga.length x.cG, .slice x.aL x.ln.length x.cL, .slice x.aS x.sd.length x.cS] 79)) y := by rw [hy]; exact below_new _
 have B0 : Below w.heap.size w y := k1.trans (k2.mono k1.size)
 have A : BxAt y w.heap.size x := (BxAt.new w _ x).below k2 (BxAt.new w _ x).lt
 have Z : MiBox y (w.heap.size + 1) (⟨false, 0, 0, [], 0, 0, 0⟩ : Mi) (.slice none 0 0) := by have := MiBox.new (w.alloc (Obj.cells #[.int .i64 x.id, .int .i64 x.po, .int .i64 x.rg.ep, .int .i64 x.rg.ow, .int .i64 x.rg.pa, .slice x.aT x.two.length x.cT, .slice x.aN x.net.length x.cN, .slice x.aG x.ga.length x.cG, .slice x.aL x.ln.length x.cL, .slice x.aS x.sd.length x.cS] 79)) 26 (⟨false, 0, 0, [], 0, 0, 0⟩ : Mi) (.slice none 0 0); rw [hy]; simpa using this
 have V := hV.later B0
 clear k1 k2 hV
 obtain ⟨b, off, hat, _⟩ := V.t (by omega)
 have vt := V.t
 rw [hat] at vt
 obtain ⟨d0, hd0⟩ : ∃ d, x.two.getD 0 MiD.nil = d := ⟨_, rfl⟩
 obtain ⟨d1, hd1⟩ : ∃ d, x.two.getD 1 MiD.nil = d := ⟨_, rfl⟩
 rw [hd0] at b0
 rw [hd1] at b1
 rw [hd0, hd1]
 have m0 : MdAtO y b off d0 := by have := mdAtO_of (vt.at_ mdEnc_len MiD.nil (i := 0) (by omega)); rw [hd0] at this; simpa using this
 have m1 : MdAtO y b (off + 7) d1 := by have := mdAtO_of (vt.at_ mdEnc_len MiD.nil (i := 1) (by omega)); rw [hd1] at this; simpa using this
 have hbl : b < w.heap.size := hbw b off hat
 have hct := V.ct
 rw [h2] at hct
 replace hat : Hid _ := hat
 replace h2 : Hid _ := h2
 clear vt V hd0 hd1
 go_enter Try.func72, Try.ntmps72
 go_upto_region 1 with fail
 rw [← hy]
 clear hy
 refine wp_region_held (S := fun Y => BxAt Y w.heap.size x ∧ MdAtO Y b off d0 ∧ MdAtO Y b (off + 7) d1) (by kernel_rfl) ?_
 change wpAnyH _ _ _ _ _ _ _ _ (World.drew _)
 have kd : Below y.heap.size y y.drew := (Below.refl _ _).drew
 obtain ⟨u0, hu0⟩ := mk_ y.drew
 rw [← hu0] at kd ⊢
 clear hu0
 have bz := B0.size
 have hs0 : BxAt u0 w.heap.size x ∧ MdAtO u0 b off d0 ∧ MdAtO u0 b (off + 7) d1 := ⟨A.below kd A.lt, m0.below kd (by omega), m1.below kd (by omega)⟩
 have Z := Z.below kd Z.lt
 have Bd := B0.trans (kd.mono B0.size)
 clear kd A m0 m1
 refine tw 0 3 (.pointer (some ⟨w.heap.size, 5, none⟩)) ?_
 refine tw 1 4 (.slice (some ⟨b, off, none⟩) 2 x.cT) ?_ (hy := by intro Y hSw; obtain ⟨⟨X0, X1, X2, X3, X4, X5, X6, X7, X8, X9⟩, _, _⟩ := hSw; rw [hat.out, h2.out] at X5; go_simp)
 refine tw 2 5 (.pointer (some ⟨b, off, none⟩)) ?_ (hy := by intro Y hSw; go_simp; try omega)
 refine tw 3 6 (.pointer (some ⟨b, off + 1, none⟩)) ?_
 refine tw 4 7 (.int .i64 d0.m.li) ?_ (hy := by intro Y hSw; obtain ⟨_, ⟨X0, X1, X2, X3, X4, X5, X6⟩, _⟩ := hSw; go_simp)
 refine tw 5 8 (.pointer (some ⟨w.heap.size, 5, none⟩)) ?_
 refine tw 6 9 (.slice (some ⟨b, off, none⟩) 2 x.cT) ?_ (hy := by intro Y hSw; obtain ⟨⟨X0, X1, X2, X3, X4, X5, X6, X7, X8, X9⟩, _, _⟩ := hSw; rw [hat.out, h2.out] at X5; go_simp)
 refine tw 7 10 (.pointer (some ⟨b, off + 7, none⟩)) ?_ (hy := by intro Y hSw; go_simp; try omega)
 refine tw 8 11 (.pointer (some ⟨b, off + 7 + 1, none⟩)) ?_
 refine tw 9 12 (.int .i64 d1.m.li) ?_ (hy := by intro Y hSw; obtain ⟨_, _, ⟨X0, X1, X2, X3, X4, X5, X6⟩⟩ := hSw; go_simp)
 refine w1 10 fun Kz hKz => ?_
 go_simp
 go_at_call 56
 refine (maxS d0.m.li d1.m.li u0).mono ?_
 rintro e u1 ⟨rfl, rfl⟩
 rw [show (if d1.m.li < d0.m.li then d0.m.li else d1.m.li) = max d0.m.li d1.m.li by split <;> omega]
 refine hKz _ _ ⟨hs0, ?_⟩
 clear hKz Kz
 obtain ⟨t, ht⟩ : ∃ t : Int, t = max d0.m.li d1.m.li := ⟨_, rfl⟩
 rw [← ht]
 have htb : 0 ≤ t ∧ t ≤ 1000000000 := by omega
 replace ht : Hid _ := ht
 have hwr : IntKind.i64.wrap (t + 1) = t + 1 := by rw [IntKind.wrap_i64]; omega
 refine tw 11 14 (.int .i64 (t + 1)) ?_ (hy := by intro Y hSw; go_simp; try omega)
 refine tw 12 15 (.agg #[.bool true, .int .i64 (t + 1), .int .i64 0, .slice none 0 0, .int .i64 0, .int .i64 0, .int .i64 0]) ?_
 refine w1 13 fun Kz hKz => ?_
 have cc := Z
 obtain ⟨z0, z1, z2, z3, z4, z5, z6, zf⟩ := cc
 have g0 := zf 0
 have g1 := zf 1
 have g2 := zf 2
 have g3 := zf 3
 have g4 := zf 4
 have g5 := zf 5
 have g6 := zf 6
 go_simp
 clear z0 z1 z2 z3 z4 z5 z6 zf g0 g1 g2 g3 g4 g5 g6
 obtain ⟨u3, hu3⟩ := mk_ (((((((u1.setCell ⟨w.heap.size + 1, 0, none⟩ (.bool true)).setCell ⟨w.heap.size + 1, 1, none⟩ (.int .i64 (t + 1))).setCell ⟨w.heap.size + 1, 2, none⟩ (.int .i64 0)).setCell ⟨w.heap.size + 1, 3, none⟩ (.slice none 0 0)).setCell ⟨w.heap.size + 1, 4, none⟩ (.int .i64 0)).setCell ⟨w.heap.size + 1, 5, none⟩ (.int .i64 0)).setCell ⟨w.heap.size + 1, 6, none⟩ (.int .i64 0))
 have Q3 : MiBox u3 (w.heap.size + 1) (⟨true, t + 1, 0, [], 0, 0, 0⟩ : Mi) (.slice none 0 0) := by rw [hu3]; exact Z.put (⟨true, t + 1, 0, [], 0, 0, 0⟩ : Mi) _
 have kp : ∀ k, k ≠ w.heap.size + 1 → u3.heap[k]? = u1.heap[k]? := fun k hk => by rw [hu3]; exact heap_put7 _ _ _ (⟨true, t + 1, 0, [], 0, 0, 0⟩ : Mi) _ hk
 have hs3 : BxAt u3 w.heap.size x ∧ MdAtO u3 b off d0 ∧ MdAtO u3 b (off + 7) d1 := ⟨hs0.1.keep (kp _ (by omega)), hs0.2.1.keep (kp _ (by omega)), hs0.2.2.keep (kp _ (by omega))⟩
 have Bd : Below w.heap.size w u3 := by rw [hu3]; exact below_put7 (⟨true, t + 1, 0, [], 0, 0, 0⟩ : Mi) _ Bd (by omega)
 rw [← hu3]
 clear hu3 kp
 refine hKz _ _ ⟨hs3, ?_⟩
 clear hKz Kz
 refine wpAnyH_done (by kernel_rfl) ?_ _
 clear hs3 hs0 Z
 obtain ⟨p0, p1, p2, p3, p4, p5, p6, pf⟩ := Q3
 clear pf
 go_wp2
 refine bodyPost_ret (v := .agg #[.bool true, .int .i64 (t + 1), .int .i64 0, .slice none 0 0, .int .i64 0, .int .i64 0, .int .i64 0]) (by simp [results, Try.results72, go_sem, *]) rfl ⟨by rw [ht.out], Bd⟩
theorem BxB.sT {w : World} {q : Nat} {x : BxD} (h : BxB w q x) (D : List MiD) (a : Option Addr) (n : Nat) (c : Nat) (hn : n = D.length) : BxB (w.setCell ⟨q, 5, none⟩ (.slice a n c)) q { x with two := D, aT := a, cT := c } := by
 subst hn
 obtain ⟨⟨h0, h1, h2, h3, h4, h5, h6, h7, h8, h9⟩, hf⟩ := h
 exact ⟨⟨(pset_else (by decide)).trans h0, (pset_else (by decide)).trans h1, (pset_else (by decide)).trans h2, (pset_else (by decide)).trans h3, (pset_else (by decide)).trans h4, pset_same h5, (pset_else (by decide)).trans h6, (pset_else (by decide)).trans h7, (pset_else (by decide)).trans h8, (pset_else (by decide)).trans h9⟩, fun i => by rw [World.frozen?_setCell]; exact hf i⟩
theorem BxB.sN {w : World} {q : Nat} {x : BxD} (h : BxB w q x) (D : List Wi) (a : Option Addr) (n : Nat) (c : Nat) (hn : n = D.length) : BxB (w.setCell ⟨q, 6, none⟩ (.slice a n c)) q { x with net := D, aN := a, cN := c } := by
 subst hn
 obtain ⟨⟨h0, h1, h2, h3, h4, h5, h6, h7, h8, h9⟩, hf⟩ := h
 exact ⟨⟨(pset_else (by decide)).trans h0, (pset_else (by decide)).trans h1, (pset_else (by decide)).trans h2, (pset_else (by decide)).trans h3, (pset_else (by decide)).trans h4, (pset_else (by decide)).trans h5, pset_same h6, (pset_else (by decide)).trans h7, (pset_else (by decide)).trans h8, (pset_else (by decide)).trans h9⟩, fun i => by rw [World.frozen?_setCell]; exact hf i⟩
theorem BxB.sL {w : World} {q : Nat} {x : BxD} (h : BxB w q x) (D : List Ik) (a : Option Addr) (n : Nat) (c : Nat) (hn : n = D.length) : BxB (w.setCell ⟨q, 8, none⟩ (.slice a n c)) q { x with ln := D, aL := a, cL := c } := by
 subst hn
 obtain ⟨⟨h0, h1, h2, h3, h4, h5, h6, h7, h8, h9⟩, hf⟩ := h
 exact ⟨⟨(pset_else (by decide)).trans h0, (pset_else (by decide)).trans h1, (pset_else (by decide)).trans h2, (pset_else (by decide)).trans h3, (pset_else (by decide)).trans h4, (pset_else (by decide)).trans h5, (pset_else (by decide)).trans h6, (pset_else (by decide)).trans h7, pset_same h8, (pset_else (by decide)).trans h9⟩, fun i => by rw [World.frozen?_setCell]; exact hf i⟩
theorem BxB.sS {w : World} {q : Nat} {x : BxD} (h : BxB w q x) (D : List Ou) (a : Option Addr) (n : Nat) (c : Nat) (hn : n = D.length) : BxB (w.setCell ⟨q, 9, none⟩ (.slice a n c)) q { x with sd := D, aS := a, cS := c } := by
 subst hn
 obtain ⟨⟨h0, h1, h2, h3, h4, h5, h6, h7, h8, h9⟩, hf⟩ := h
 exact ⟨⟨(pset_else (by decide)).trans h0, (pset_else (by decide)).trans h1, (pset_else (by decide)).trans h2, (pset_else (by decide)).trans h3, (pset_else (by decide)).trans h4, (pset_else (by decide)).trans h5, (pset_else (by decide)).trans h6, (pset_else (by decide)).trans h7, (pset_else (by decide)).trans h8, pset_same h9⟩, fun i => by rw [World.frozen?_setCell]; exact hf i⟩
theorem BxB.sR {w : World} {q : Nat} {x : BxD} (h : BxB w q x) (r : Rg) : BxB (((w.setCell ⟨q, 2, none⟩ (.int .i64 r.ep)).setCell ⟨q, 3, none⟩ (.int .i64 r.ow)).setCell ⟨q, 4, none⟩ (.int .i64 r.pa)) q { x with rg := r } := by
 obtain ⟨⟨h0, h1, h2, h3, h4, h5, h6, h7, h8, h9⟩, hf⟩ := h
 have h0 : (w.setCell ⟨q, 2, none⟩ (.int .i64 r.ep)).cell? ⟨q, 0, none⟩ = _ := (pset_else (by decide)).trans h0
 have h1 : (w.setCell ⟨q, 2, none⟩ (.int .i64 r.ep)).cell? ⟨q, 1, none⟩ = _ := (pset_else (by decide)).trans h1
 have h2 : (w.setCell ⟨q, 2, none⟩ (.int .i64 r.ep)).cell? ⟨q, 2, none⟩ = some (.int .i64 r.ep) := pset_same h2
 have h3 : (w.setCell ⟨q, 2, none⟩ (.int .i64 r.ep)).cell? ⟨q, 3, none⟩ = _ := (pset_else (by decide)).trans h3
 have h4 : (w.setCell ⟨q, 2, none⟩ (.int .i64 r.ep)).cell? ⟨q, 4, none⟩ = _ := (pset_else (by decide)).trans h4
 have h5 : (w.setCell ⟨q, 2, none⟩ (.int .i64 r.ep)).cell? ⟨q, 5, none⟩ = _ := (pset_else (by decide)).trans h5
 have h6 : (w.setCell ⟨q, 2, none⟩ (.int .i64 r.ep)).cell? ⟨q, 6, none⟩ = _ := (pset_else (by decide)).trans h6
 have h7 : (w.setCell ⟨q, 2, none⟩ (.int .i64 r.ep)).cell? ⟨q, 7, none⟩ = _ := (pset_else (by decide)).trans h7
 have h8 : (w.setCell ⟨q, 2, none⟩ (.int .i64 r.ep)).cell? ⟨q, 8, none⟩ = _ := (pset_else (by decide)).trans h8
 have h9 : (w.setCell ⟨q, 2, none⟩ (.int .i64 r.ep)).cell? ⟨q, 9, none⟩ = _ := (pset_else (by decide)).trans h9
 have h0 : ((w.setCell ⟨q, 2, none⟩ (.int .i64 r.ep)).setCell ⟨q, 3, none⟩ (.int .i64 r.ow)).cell? ⟨q, 0, none⟩ = _ := (pset_else (by decide)).trans h0
 have h1 : ((w.setCell ⟨q, 2, none⟩ (.int .i64 r.ep)).setCell ⟨q, 3, none⟩ (.int .i64 r.ow)).cell? ⟨q, 1, none⟩ = _ := (pset_else (by decide)).trans h1
 have h2 : ((w.setCell ⟨q, 2, none⟩ (.int .i64 r.ep)).setCell ⟨q, 3, none⟩ (.int .i64 r.ow)).cell? ⟨q, 2, none⟩ = _ := (pset_else (by decide)).trans h2
 have h3 : ((w.setCell ⟨q, 2, none⟩ (.int .i64 r.ep)).setCell ⟨q, 3, none⟩ (.int .i64 r.ow)).cell? ⟨q, 3, none⟩ = some (.int .i64 r.ow) := pset_same h3
 have h4 : ((w.setCell ⟨q, 2, none⟩ (.int .i64 r.ep)).setCell ⟨q, 3, none⟩ (.int .i64 r.ow)).cell? ⟨q, 4, none⟩ = _ := (pset_else (by decide)).trans h4
 have h5 : ((w.setCell ⟨q, 2, none⟩ (.int .i64 r.ep)).setCell ⟨q, 3, none⟩ (.int .i64 r.ow)).cell? ⟨q, 5, none⟩ = _ := (pset_else (by decide)).trans h5
 have h6 : ((w.setCell ⟨q, 2, none⟩ (.int .i64 r.ep)).setCell ⟨q, 3, none⟩ (.int .i64 r.ow)).cell? ⟨q, 6, none⟩ = _ := (pset_else (by decide)).trans h6
 have h7 : ((w.setCell ⟨q, 2, none⟩ (.int .i64 r.ep)).setCell ⟨q, 3, none⟩ (.int .i64 r.ow)).cell? ⟨q, 7, none⟩ = _ := (pset_else (by decide)).trans h7
 have h8 : ((w.setCell ⟨q, 2, none⟩ (.int .i64 r.ep)).setCell ⟨q, 3, none⟩ (.int .i64 r.ow)).cell? ⟨q, 8, none⟩ = _ := (pset_else (by decide)).trans h8
 have h9 : ((w.setCell ⟨q, 2, none⟩ (.int .i64 r.ep)).setCell ⟨q, 3, none⟩ (.int .i64 r.ow)).cell? ⟨q, 9, none⟩ = _ := (pset_else (by decide)).trans h9
 have h0 : (((w.setCell ⟨q, 2, none⟩ (.int .i64 r.ep)).setCell ⟨q, 3, none⟩ (.int .i64 r.ow)).setCell ⟨q, 4, none⟩ (.int .i64 r.pa)).cell? ⟨q, 0, none⟩ = _ := (pset_else (by decide)).trans h0
 have h1 : (((w.setCell ⟨q, 2, none⟩ (.int .i64 r.ep)).setCell ⟨q, 3, none⟩ (.int .i64 r.ow)).setCell ⟨q, 4, none⟩ (.int .i64 r.pa)).cell? ⟨q, 1, none⟩ = _ := (pset_else (by decide)).trans h1
 have h2 : (((w.setCell ⟨q, 2, none⟩ (.int .i64 r.ep)).setCell ⟨q, 3, none⟩ (.int .i64 r.ow)).setCell ⟨q, 4, none⟩ (.int .i64 r.pa)).cell? ⟨q, 2, none⟩ = _ := (pset_else (by decide)).trans h2
 have h3 : (((w.setCell ⟨q, 2, none⟩ (.int .i64 r.ep)).setCell ⟨q, 3, none⟩ (.int .i64 r.ow)).setCell ⟨q, 4, none⟩ (.int .i64 r.pa)).cell? ⟨q, 3, none⟩ = _ := (pset_else (by decide)).trans h3
 have h4 : (((w.setCell ⟨q, 2, none⟩ (.int .i64 r.ep)).setCell ⟨q, 3, none⟩ (.int .i64 r.ow)).setCell ⟨q, 4, none⟩ (.int .i64 r.pa)).cell? ⟨q, 4, none⟩ = some (.int .i64 r.pa) := pset_same h4
 have h5 : (((w.setCell ⟨q, 2, none⟩ (.int .i64 r.ep)).setCell ⟨q, 3, none⟩ (.int .i64 r.ow)).setCell ⟨q, 4, none⟩ (.int .i64 r.pa)).cell? ⟨q, 5, none⟩ = _ := (pset_else (by decide)).trans h5
 have h6 : (((w.setCell ⟨q, 2, none⟩ (.int .i64 r.ep)).setCell ⟨q, 3, none⟩ (.int .i64 r.ow)).setCell ⟨q, 4, none⟩ (.int .i64 r.pa)).cell? ⟨q, 6, none⟩ = _ := (pset_else (by decide)).trans h6
 have h7 : (((w.setCell ⟨q, 2, none⟩ (.int .i64 r.ep)).setCell ⟨q, 3, none⟩ (.int .i64 r.ow)).setCell ⟨q, 4, none⟩ (.int .i64 r.pa)).cell? ⟨q, 7, none⟩ = _ := (pset_else (by decide)).trans h7
 have h8 : (((w.setCell ⟨q, 2, none⟩ (.int .i64 r.ep)).setCell ⟨q, 3, none⟩ (.int .i64 r.ow)).setCell ⟨q, 4, none⟩ (.int .i64 r.pa)).cell? ⟨q, 8, none⟩ = _ := (pset_else (by decide)).trans h8
 have h9 : (((w.setCell ⟨q, 2, none⟩ (.int .i64 r.ep)).setCell ⟨q, 3, none⟩ (.int .i64 r.ow)).setCell ⟨q, 4, none⟩ (.int .i64 r.pa)).cell? ⟨q, 9, none⟩ = _ := (pset_else (by decide)).trans h9
 exact ⟨⟨h0, h1, h2, h3, h4, h5, h6, h7, h8, h9⟩, fun i => by rw [World.frozen?_setCell, World.frozen?_setCell, World.frozen?_setCell]; exact hf i⟩
structure BxNe (q : Nat) (x : BxD) : Prop where
 t : ∀ b, (Value.slice x.aT x.two.length x.cT).ownBlock = some b → b ≠ q
 n : ∀ b, (Value.slice x.aN x.net.length x.cN).ownBlock = some b → b ≠ q
 g : ∀ b, (Value.slice x.aG x.ga.length x.cG).ownBlock = some b → b ≠ q
 i : ∀ b, (Value.slice x.aL x.ln.length x.cL).ownBlock = some b → b ≠ q
 s : ∀ b, (Value.slice x.aS x.sd.length x.cS).ownBlock = some b → b ≠ q
 l : ∀ j, j < x.two.length → ∀ b, (Value.slice (x.two.getD j MiD.nil).ad (x.two.getD j MiD.nil).m.lg.length (x.two.getD j MiD.nil).cap).ownBlock = some b → b ≠ q
theorem BxO.keepQ {base q : Nat} {w w' : World} {x : BxD} (h : BxO base w x) (hq : BxNe q x) (k : ∀ g, g ≠ q → w'.heap[g]? = w.heap[g]?) : BxO base w' x :=
 ⟨h.t.keep (fun g e => k g (hq.t g e)), fun i hi => (h.l i hi).keep (fun g e => k g (hq.l i hi g e)), h.n.keep (fun g e => k g (hq.n g e)), h.g.keep (fun g e => k g (hq.g g e)), h.i.keep (fun g e => k g (hq.i g e)), h.s.keep (fun g e => k g (hq.s g e)), h.ap⟩
theorem BxO.ne {base q : Nat} {w : World} {x : BxD} (h : BxO base w x) (hq : w.heap.size ≤ q) : BxNe q x :=
 ⟨fun b e => (by have := h.t.lt b e; omega), fun b e => (by have := h.n.lt b e; omega), fun b e => (by have := h.g.lt b e; omega), fun b e => (by have := h.i.lt b e; omega), fun b e => (by have := h.s.lt b e; omega), fun j hj b e => (by have := (h.l j hj).lt b e; omega)⟩
theorem BxO.gate {base : Nat} {w : World} {x : BxD} (h : BxO base w x) {g k : Nat} (hat : x.aG = some ⟨g, 0, none⟩) (hk : k < x.ga.length) (b : Bool) : BxO base (w.setCell ⟨g, k, none⟩ (.bool b)) { x with ga := x.ga.set k b } := by
 have hg : FOwn boEnc 1 4 base (w.setCell ⟨g, k, none⟩ (.bool b)) (.slice x.aG (x.ga.set k b).length x.cG) (x.ga.set k b) := by
  have h1 := h.g
  rw [hat] at h1 ⊢
  have := h1.set boEnc_len (by omega) hk b
  rw [Nat.mul_one] at this
  rw [List.length_set]
  exact this
 have hb : ∀ q, q ≠ g → (w.setCell ⟨g, k, none⟩ (.bool b)).heap[q]? = w.heap[q]? := fun q hq => Below.heap_setCell _ _ _ _ hq
 have ne : ∀ {X : Type} {e : X → List Value} {n : Nat} {T : TypeId} {b1 : Nat} {v : Value} {L : List X}, FOwn e n T b1 w v L → T ≠ 4 → ∀ q, v.ownBlock = some q → q ≠ g := fun hr hT q e e2 => (hr.apart h.g hT e) (by rw [hat, e2]; rfl)
 exact ⟨h.t.keep (fun q e => hb q (ne h.t (by decide) q e)), fun i hi => (h.l i hi).keep (fun q e => hb q (ne (h.l i hi) (by decide) q e)), h.n.keep (fun q e => hb q (ne h.n (by decide) q e)), hg, h.i.keep (fun q e => hb q (ne h.i (by decide) q e)), h.s.keep (fun q e => hb q (ne h.s (by decide) q e)), h.ap⟩
theorem BxO.said {base : Nat} {w w' : World} {x : BxD} (h : BxO base w x) (N : List Ou) (a : Option Addr) (c : Nat) (hN : FOwn ouEnc 8 135 base w' (.slice a N.length c) N) (k : ∀ g, g < w.heap.size → (Value.slice x.aS x.sd.length x.cS).ownBlock ≠ some g → w'.heap[g]? = w.heap[g]?) : BxO base w' { x with sd := N, aS := a, cS := c } :=
 ⟨h.t.keep (fun g e => k g (h.t.lt g e).2 (fun e2 => h.s.apart h.t (by decide) e2 e)), fun j hj => (h.l j hj).keep (fun g e => k g ((h.l j hj).lt g e).2 (fun e2 => h.s.apart (h.l j hj) (by decide) e2 e)), h.n.keep (fun g e => k g (h.n.lt g e).2 (fun e2 => h.s.apart h.n (by decide) e2 e)), h.g.keep (fun g e => k g (h.g.lt g e).2 (fun e2 => h.s.apart h.g (by decide) e2 e)), h.i.keep (fun g e => k g (h.i.lt g e).2 (fun e2 => h.s.apart h.i (by decide) e2 e)), hN, h.ap⟩
theorem OuAtO.keepA {w w' : World} {q o : Nat} {x : Ou} (h : OuAtO w q o x) (k : w'.heap[q]? = w.heap[q]?) : OuAtO w' q o x :=
 ⟨(World.cell?_of_block (a := ⟨q, o, none⟩) k).trans h.c0, (World.cell?_of_block (a := ⟨q, o + 1, none⟩) k).trans h.c1, (World.cell?_of_block (a := ⟨q, o + 2, none⟩) k).trans h.c2, (World.cell?_of_block (a := ⟨q, o + 3, none⟩) k).trans h.c3, (World.cell?_of_block (a := ⟨q, o + 4, none⟩) k).trans h.c4, (World.cell?_of_block (a := ⟨q, o + 5, none⟩) k).trans h.c5, (World.cell?_of_block (a := ⟨q, o + 6, none⟩) k).trans h.c6, (World.cell?_of_block (a := ⟨q, o + 7, none⟩) k).trans h.c7⟩
theorem OuAtO.belowA {w w' : World} {q o n : Nat} {x : Ou} (h : OuAtO w q o x) (k : Below n w w') (hq : q < n) : OuAtO w' q o x := h.keepA (k.block q hq)
def accK (b : Bx) (M : List Ou) : Bx := ⟨b.id, b.po, b.rg, b.two, b.net, M.foldl gateX b.ga, b.ln, b.sd ++ M⟩
theorem accK_nil (b : Bx) : accK b [] = b := by unfold accK; simp
theorem accK_len (b : Bx) (M : List Ou) : (accK b M).ga.length = b.ga.length := gateX_len M b.ga
theorem accK_snoc (b : Bx) (M : List Ou) (h : Ou) : accK b (M ++ [h]) = ⟨(accK b M).id, (accK b M).po, (accK b M).rg, (accK b M).two, (accK b M).net, gateX (accK b M).ga h, (accK b M).ln, (accK b M).sd ++ [h]⟩ := by
 unfold accK
 simp
theorem take_snoc {L : List Ou} {k : Nat} (h : k < L.length) : L.take (k + 1) = L.take k ++ [L.getD k Ou.nil] := by
 rw [List.take_add_one]
 simp [List.getD, h]
theorem accX_yes {b : Bx} {s : Int} {L : List Ou} (h : mindsX b s = true) : accX b s L = ⟨b.id, b.po, b.rg, b.two, b.net, L.foldl gateX b.ga, b.ln, lastS (b.sd ++ L)⟩ := by unfold accX; rw [if_pos h]
theorem lastS_all {M : List Ou} (h : M.length ≤ 40) : lastS M = M := by unfold lastS; rw [show M.length - 40 = 0 by omega]; rfl
theorem FView.dropO {w : World} {b : Nat} {L : List Ou} (h : FView ouEnc w (some ⟨b, 0, none⟩) L) {k : Nat} (hk : k ≤ L.length) : FView ouEnc w (some ⟨b, k * 8, none⟩) (L.drop k) := by
 intro hp
 rw [List.length_drop] at hp
 obtain ⟨b2, off, e, hc⟩ := h (by omega)
 cases e
 refine ⟨b, k * 8, rfl, fun j v hv => ?_⟩
 have e : (fcells ouEnc L)[k * 8 + j]? = some v := by
  have hL : fcells ouEnc L = fcells ouEnc (L.take k) ++ fcells ouEnc (L.drop k) := by
   rw [← fcells_app, List.take_append_drop]
  have hl : (fcells ouEnc (L.take k)).length = k * 8 := by rw [fcells_len ouEnc_len, List.length_take, Nat.min_eq_left hk]
  rw [hL, List.getElem?_append_right (by omega), hl, show k * 8 + j - k * 8 = j by omega]
  exact hv
 have := hc (k * 8 + j) v e
 simpa using this
def lToM (Bs : List MiD) : Nat → Nat
 | 0 => 0
 | j + 1 => lToM Bs j + (Bs.getD j MiD.nil).m.lg.length
theorem lToM_mono (Bs : List MiD) {i j : Nat} (h : i ≤ j) : lToM Bs i ≤ lToM Bs j := by
 induction h with
 | refl => exact Nat.le_refl _
 | step _ ih => exact Nat.le_trans ih (by show _ ≤ lToM Bs _ + _; omega)
theorem getLM_le (Bs : List MiD) {k : Nat} (h : k < Bs.length) : (Bs.getD k MiD.nil).m.lg.length ≤ lToM Bs Bs.length :=
 Nat.le_trans (by show _ ≤ lToM Bs k + (Bs.getD k MiD.nil).m.lg.length; omega) (lToM_mono Bs (i := k + 1) h)
end Go.Proofs.Ytnpiljegdiconaa
