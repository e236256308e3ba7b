import Derived.Test.YtnpiljegdiconabGreatQM15
namespace Go.Proofs.YtnpiljegdiconabGreat
open Go.ChangeShapes Go.WideShapes Go.ChangeAt Go.RowKit
open Go.ChangeMaps (open_string shut_string)
set_option linter.unusedVariables false
set_option maxRecDepth 100000
def MiD.to (m : MiD) (n : Nat) : MiD := ⟨m.m, some ⟨n, 0, none⟩, m.m.lg.length⟩
def cpyM (Bs : List MiD) (Ns : Nat → Nat) : List MiD := (List.range Bs.length).map (fun j => (Bs.getD j MiD.nil).to (Ns j))
theorem cpyM_len (Bs : List MiD) (Ns : Nat → Nat) : (cpyM Bs Ns).length = Bs.length := by simp [cpyM]
theorem cpyM_get (Bs : List MiD) (Ns : Nat → Nat) {j : Nat} (h : j < Bs.length) : (cpyM Bs Ns).getD j MiD.nil = (Bs.getD j MiD.nil).to (Ns j) := by simp [cpyM, List.getD, h]
theorem cpyM_d (Bs : List MiD) (Ns : Nat → Nat) : (cpyM Bs Ns).map MiD.m = Bs.map MiD.m := by
 refine List.ext_getElem (by simp [cpyM]) fun i h1 h2 => ?_
 have hi : i < Bs.length := by simpa using h2
 simp [cpyM, MiD.to, List.getD, hi]
theorem FFill.congrM {X : Type} {enc : X → List Value} {n : Nat} (hn : ∀ x, (enc x).length = n) (h0 : 0 < n) (d : X) {T : TypeId} {base : Nat} {w : World} {g : Nat} {L M : List X} {k : Nat} (h : FFill enc n T base w g L k) (hk : k ≤ L.length) (hl : M.length = L.length) (e : ∀ i, i < k → M.getD i d = L.getD i d) : FFill enc n T base w g M k := by
 obtain ⟨xs, h1, h2⟩ := h
 refine ⟨xs, by rw [hl]; exact h1, fun j hj => ?_⟩
 rw [h2 j hj]
 have hq : j / n < k := Nat.div_lt_of_lt_mul (by rw [Nat.mul_comm]; exact hj)
 have hr : j % n < n := Nat.mod_lt _ h0
 have ej : j = j / n * n + j % n := by rw [Nat.mul_comm]; exact (Nat.div_add_mod j n).symm
 rw [ej, fcells_at hn d L _ _ (by omega) hr, fcells_at hn d M _ _ (by omega) hr, e _ hq]
structure MF (B : Nat) (Bs : List MiD) (Ns : Nat → Nat) (k : Nat) (w wr : World) : Prop where
 bel : Below B w wr
 fill : FFill mdEnc 7 49 B wr B (cpyM Bs Ns) k
 nest : ∀ j, j < k → FOwn ikEnc 8 80 B wr (.slice (some ⟨Ns j, 0, none⟩) (Bs.getD j MiD.nil).m.lg.length (Bs.getD j MiD.nil).m.lg.length) (Bs.getD j MiD.nil).m.lg
 nb : ∀ j, j < k → B < Ns j ∧ Ns j < wr.heap.size
 inc : ∀ i j, i < j → j < k → Ns i < Ns j
theorem MF.later {B : Nat} {Bs : List MiD} {Ns : Nat → Nat} {k : Nat} {w wr w2 : World} (h : MF B Bs Ns k w wr) (b : Below wr.heap.size wr w2) : MF B Bs Ns k w w2 := by
 have hl := h.fill.lt
 have hs := b.size
 exact ⟨h.bel.trans (b.mono (by omega)), h.fill.keep (b.block _ hl.2), fun j hj => (h.nest j hj).later b, fun j hj => ⟨(h.nb j hj).1, by have := (h.nb j hj).2; omega⟩, h.inc⟩
theorem MF.step {B : Nat} {Bs : List MiD} {Ns : Nat → Nat} {k : Nat} {w wr : World} {N : Nat} (h : MF B Bs Ns k w wr) (hk : k < Bs.length) (hN : B < N ∧ N < wr.heap.size) (hi : ∀ j, j < k → Ns j < N)
  (hv : FOwn ikEnc 8 80 B wr (.slice (some ⟨N, 0, none⟩) (Bs.getD k MiD.nil).m.lg.length (Bs.getD k MiD.nil).m.lg.length) (Bs.getD k MiD.nil).m.lg) :
  MF B Bs (fun j => if j = k then N else Ns j) (k + 1) w (((((((wr.setCell ⟨B, k * 7, none⟩ (.bool (Bs.getD k MiD.nil).m.up)).setCell ⟨B, k * 7 + 1, none⟩ (.int .i64 (Bs.getD k MiD.nil).m.li)).setCell ⟨B, k * 7 + 2, none⟩ (.int .i64 (Bs.getD k MiD.nil).m.ep)).setCell ⟨B, k * 7 + 3, none⟩ (.slice (some ⟨N, 0, none⟩) (Bs.getD k MiD.nil).m.lg.length (Bs.getD k MiD.nil).m.lg.length)).setCell ⟨B, k * 7 + 4, none⟩ (.int .i64 (Bs.getD k MiD.nil).m.sd)).setCell ⟨B, k * 7 + 5, none⟩ (.int .i64 (Bs.getD k MiD.nil).m.ac)).setCell ⟨B, k * 7 + 6, none⟩ (.int .i64 (Bs.getD k MiD.nil).m.al)) := by
 have hb : ∀ g, g ≠ B → (((((((wr.setCell ⟨B, k * 7, none⟩ (.bool (Bs.getD k MiD.nil).m.up)).setCell ⟨B, k * 7 + 1, none⟩ (.int .i64 (Bs.getD k MiD.nil).m.li)).setCell ⟨B, k * 7 + 2, none⟩ (.int .i64 (Bs.getD k MiD.nil).m.ep)).setCell ⟨B, k * 7 + 3, none⟩ (.slice (some ⟨N, 0, none⟩) (Bs.getD k MiD.nil).m.lg.length (Bs.getD k MiD.nil).m.lg.length)).setCell ⟨B, k * 7 + 4, none⟩ (.int .i64 (Bs.getD k MiD.nil).m.sd)).setCell ⟨B, k * 7 + 5, none⟩ (.int .i64 (Bs.getD k MiD.nil).m.ac)).setCell ⟨B, k * 7 + 6, none⟩ (.int .i64 (Bs.getD k MiD.nil).m.al)).heap[g]? = wr.heap[g]? := fun g hg => by
  rw [Below.heap_setCell _ _ _ _ hg, Below.heap_setCell _ _ _ _ hg, Below.heap_setCell _ _ _ _ hg, Below.heap_setCell _ _ _ _ hg, Below.heap_setCell _ _ _ _ hg, Below.heap_setCell _ _ _ _ hg, Below.heap_setCell _ _ _ _ hg]
 have F : FFill mdEnc 7 49 B wr B (cpyM Bs (fun j => if j = k then N else Ns j)) k := h.fill.congrM mdEnc_len (by omega) MiD.nil (by rw [cpyM_len]; omega) (by rw [cpyM_len, cpyM_len]) (fun i hi => by
  rw [cpyM_get _ _ (by omega), cpyM_get _ _ (by omega)]
  have : i ≠ k := by omega
  simp only [this, if_false])
 have F1 := F.step mdEnc_len MiD.nil (by rw [cpyM_len]; exact hk)
 rw [cpyM_get _ _ hk, mdPut] at F1
 simp only [if_true, MiD.to] at F1
 refine ⟨(((((((h.bel.setCell (Nat.le_refl _) _).setCell (Nat.le_refl _) _).setCell (Nat.le_refl _) _).setCell (Nat.le_refl _) _).setCell (Nat.le_refl _) _).setCell (Nat.le_refl _) _).setCell (Nat.le_refl _) _), F1, fun j hj => ?_, fun j hj => ?_, fun i j hij hj => ?_⟩
 ·
  by_cases e : j = k
  ·
   subst e
   simp only [if_true]
   exact hv.keep (fun g q => hb _ (by have : N = g := (by simpa [Value.ownBlock] using q); omega))
  ·
   simp only [e, if_false]
   exact (h.nest j (by omega)).keep (fun g q => hb _ (by have : Ns j = g := (by simpa [Value.ownBlock] using q); have := (h.nb j (by omega)).1; omega))
 ·
  by_cases e : j = k
  ·
   simp only [e, if_true]; simpa using hN
  ·
   simp only [e, if_false]; simpa using h.nb j (by omega)
 ·
  by_cases e : j = k
  ·
   have : i ≠ k := by omega
   simp only [e, this, if_true, if_false]
   exact hi i (by omega)
  ·
   have : i ≠ k := by omega
   simp only [e, this, if_false]
   exact h.inc i j hij (by omega)
theorem MF.own {B : Nat} {Bs : List MiD} {Ns : Nat → Nat} {w wr : World} (h : MF B Bs Ns Bs.length w wr) : MOwn B wr.heap.size wr (.slice (some ⟨B, 0, none⟩) Bs.length Bs.length) (cpyM Bs Ns) := by
 have hl := cpyM_len Bs Ns
 have F := h.fill
 rw [← hl] at F
 have O := F.done mdEnc_len
 rw [hl] at O
 have hv : ∀ i, i < Bs.length → ((cpyM Bs Ns).getD i MiD.nil).v = .slice (some ⟨Ns i, 0, none⟩) (Bs.getD i MiD.nil).m.lg.length (Bs.getD i MiD.nil).m.lg.length := fun i hi => by rw [cpyM_get _ _ hi]; rfl
 have hb : ∀ i, i < Bs.length → ∀ g, ((cpyM Bs Ns).getD i MiD.nil).v.ownBlock = some g → Ns i = g := fun i hi g e => by
  rw [hv i hi] at e
  simpa [Value.ownBlock] using e
 refine ⟨O, fun i hi => ?_, fun g e => ?_, fun i hi g e => ?_, fun i hi g g' e e' => ?_, fun i j hij hj g g' e e' => ?_⟩
 ·
  rw [hl] at hi
  rw [hv i hi, cpyM_get _ _ hi]
  exact h.nest i hi
 ·
  obtain rfl : B = g := by simpa [Value.ownBlock] using e
  exact h.fill.lt.2
 ·
  rw [hl] at hi
  have := hb i hi g e
  have := (h.nb i hi).2
  omega
 ·
  rw [hl] at hi
  have := hb i hi g' e'
  have := (h.nb i hi).1
  obtain rfl : B = g := by simpa [Value.ownBlock] using e
  omega
 ·
  rw [hl] at hj
  have := hb i (by omega) g e
  have := hb j hj g' e'
  have := h.inc i j hij hj
  omega
theorem mf_made {w w1 : World} {Bs : List MiD} {Ns : Nat → Nat} {xs : List Value} (hown : w1.ownsRow w.heap.size 49 7 (.slice (some ⟨w.heap.size, 0, none⟩) Bs.length Bs.length) Bs.length xs) (hgrow : w.grownBy w1 none) : MF w.heap.size Bs Ns 0 w w1 := by
 refine ⟨(Below.refl _ _).grown hgrow (Nat.le_refl _) (by simp), FFill.start (by rw [cpyM_len]; exact hown), fun j hj => by omega, fun j hj => by omega, fun i j _ hj => by omega⟩
theorem mdInfo2 : (Tryz.prog.info? 49).map (fun i => (i.zero, i.size, i.bytes)) = some (some (.agg #[.bool false, .int .i64 0, .int .i64 0, .slice none 0 0, .int .i64 0, .int .i64 0, .int .i64 0]), 7, 72) := by kernel_rfl
set_option maxHeartbeats 1000000 in
theorem mdTo (ad : Option Addr) (cap : Nat) (Bs : List MiD) (w : World) (hv : MV w ad Bs) (hl : Bs.length ≤ 1048576) (hls : ∀ i, i < Bs.length → (Bs.getD i MiD.nil).m.lg.length ≤ 1048576) :
  Calls Tryz.prog 22 #[.slice ad Bs.length cap] w fun e w' => ∃ Ns, e = .returned (.slice (some ⟨w.heap.size, 0, none⟩) Bs.length Bs.length) ∧ MF w.heap.size Bs Ns Bs.length w w' := by
 obtain ⟨i0, hi, hz0, hz1, hz2⟩ := info_parts mdInfo2
 go_enter Tryz.func22, Tryz.ntmps22
 go_wp2_with (first | (refine wpList_make_full _ rfl _ _ 34 rfl w.heap.size 49 i0 (.agg #[.bool false, .int .i64 0, .int .i64 0, .slice none 0 0, .int .i64 0, .int .i64 0, .int .i64 0]) 7 Tryz.underlying34 hi hz0 hz1 .i64 .i64 _ _ Bs.length rfl rfl rfl rfl ?c1 ?c2 ?c3 ?_))
 case c1 => rw [hz2]; omega
 case c2 => unfold maxLen; omega
 case c3 => exact Nat.le_refl _
 intro w1 hown hgrow
 have F0 : MF w.heap.size Bs (fun _ => 0) 0 w w1 := mf_made hown hgrow
 clear hown hgrow
 go_wp2
 go_loopw [4] (fun i wr => ∃ (k : Nat) (Ns : Nat → Nat), k ≤ Bs.length ∧ i = .int .i64 k ∧ MF w.heap.size Bs Ns k w wr) (fun i _ => Bs.length - (intOf i).toNat)
 case atStart => exact ⟨0, _, Nat.zero_le _, rfl, F0⟩
 case round =>
  obtain ⟨k, Ns, hk, rfl, F⟩ := hrel
  clear F0
  by_cases hlt : k < Bs.length
  ·
   obtain ⟨b, off, rfl⟩ := hv.ad_ (by omega)
   have hck := (hv.below F.bel (Nat.le_refl _)).at_ hlt
   have hnk := (hv.below F.bel (Nat.le_refl _)).nest k hlt
   have hlk := hls k hlt
   have hs := F.bel.size
   have hfl := F.fill.lt
   have st := fun (w2 : World) (N : Nat) (G : MF w.heap.size Bs Ns k w w2) (h1 : wr.heap.size ≤ N) (h2 : N < w2.heap.size) => G.step (N := N) hlt ⟨by omega, h2⟩ (fun j hj => by have := (F.nb j hj).2; omega)
   obtain ⟨m, hh⟩ : ∃ m, Bs.getD k MiD.nil = m := ⟨_, rfl⟩
   rw [hh] at hck hnk hlk
   simp only [hh] at st
   obtain ⟨c0, c1, c2, c3, c4, c5, c6⟩ := hck
   clear hv hls hh
   go_wp2_with fail
   go_at_call 48
   refine (miTo m.m m.ad m.cap wr hnk hlk).mono ?_
   rintro e w2 ⟨N, rfl, n1, n2, o2, k2⟩
   have G := F.later k2
   have G1 := st w2 N G n1 n2 (o2.base hs)
   obtain ⟨u0, hu0⟩ := G.fill.cell (k * 7) (by rw [cpyM_len]; omega)
   obtain ⟨u1, hu1⟩ := G.fill.cell (k * 7 + 1) (by rw [cpyM_len]; omega)
   obtain ⟨u2, hu2⟩ := G.fill.cell (k * 7 + 2) (by rw [cpyM_len]; omega)
   obtain ⟨u3, hu3⟩ := G.fill.cell (k * 7 + 3) (by rw [cpyM_len]; omega)
   obtain ⟨u4, hu4⟩ := G.fill.cell (k * 7 + 4) (by rw [cpyM_len]; omega)
   obtain ⟨u5, hu5⟩ := G.fill.cell (k * 7 + 5) (by rw [cpyM_len]; omega)
   obtain ⟨u6, hu6⟩ := G.fill.cell (k * 7 + 6) (by rw [cpyM_len]; omega)
   have f0 := G.fill.frozen (k * 7)
   have f1 := G.fill.frozen (k * 7 + 1)
   have f2 := G.fill.frozen (k * 7 + 2)
   have f3 := G.fill.frozen (k * 7 + 3)
   have f4 := G.fill.frozen (k * 7 + 4)
   have f5 := G.fill.frozen (k * 7 + 5)
   have f6 := G.fill.frozen (k * 7 + 6)
   clear F G st o2 hnk hfl
   go_wp2
   go_roundw
   case rel => exact ⟨k + 1, _, by omega, by go_num, G1⟩
   case measure => simp [intOf]; omega
  ·
   obtain rfl : k = Bs.length := by omega
   go_wp2
   go_ret
   exact ⟨Ns, rfl, F⟩
structure BxLt (B : Nat) (x : BxD) : Prop where
 t : ∀ a, x.aT = some a → 0 < x.two.length → a.block < B
 l : ∀ i, i < x.two.length → ∀ a, (x.two.getD i MiD.nil).ad = some a → 0 < (x.two.getD i MiD.nil).m.lg.length → a.block < B
 n : ∀ a, x.aN = some a → 0 < x.net.length → a.block < B
 g : ∀ a, x.aG = some a → 0 < x.ga.length → a.block < B
 i : ∀ a, x.aL = some a → 0 < x.ln.length → a.block < B
 s : ∀ a, x.aS = some a → 0 < x.sd.length → a.block < B
theorem BxIn.lt {w : World} {x : BxD} (h : BxIn w x) : BxLt w.heap.size x :=
 ⟨h.t.row.lt mdEnc_len (by omega), fun i hi => (h.t.nest i hi).lt ikEnc_len (by omega), h.n.lt wiEnc_len (by omega), h.g.lt boEnc_len (by omega), h.i.lt ikEnc_len (by omega), h.s.lt ouEnc_len (by omega)⟩
theorem BxIn.kept {w w' : World} {x : BxD} {n : Nat} (h : BxIn w x) (hin : BxLt n x) (k : ∀ g, g < n → w'.heap[g]? = w.heap[g]?) : BxIn w' x :=
 ⟨⟨h.t.row.carry (fun a e p => k _ (hin.t a e p)), fun i hi => (h.t.nest i hi).carry (fun a e p => k _ (hin.l i hi a e p)), h.t.nil0⟩, h.tm, h.ts, h.tc, h.tn, h.n.carry (fun a e p => k _ (hin.n a e p)), h.nm, h.nn, h.g.carry (fun a e p => k _ (hin.g a e p)), h.gm, h.gn, h.i.carry (fun a e p => k _ (hin.i a e p)), h.im, h.ic, h.s.carry (fun a e p => k _ (hin.s a e p)), h.sm, h.sn⟩
set_option maxHeartbeats 8000000 in
theorem bxTo (x : BxD) (w : World) (I : BxIn w x) (K : BxSm x) :
  Calls Tryz.prog 7 #[.agg #[.int .i64 x.id, .int .i64 x.po, .int .i64 x.rg.ep, .int .i64 x.rg.ow, .int .i64 x.rg.pa, .slice x.aT x.two.length x.cT, .slice x.aN x.net.length x.cN, .slice x.aG x.ga.length x.cG, .slice x.aL x.ln.length x.cL, .slice x.aS x.sd.length x.cS]] w fun e w' => ∃ x2 : BxD, e = .returned (.agg #[.int .i64 x2.id, .int .i64 x2.po, .int .i64 x2.rg.ep, .int .i64 x2.rg.ow, .int .i64 x2.rg.pa, .slice x2.aT x2.two.length x2.cT, .slice x2.aN x2.net.length x2.cN, .slice x2.aG x2.ga.length x2.cG, .slice x2.aL x2.ln.length x2.cL, .slice x2.aS x2.sd.length x2.cS]) ∧ x2.p = x.p ∧ BxM w.heap.size w'.heap.size w' x2 ∧ Below w.heap.size w w' := by
 have hin := I.lt
 obtain ⟨y, hy⟩ := mk_ (((w.alloc (Obj.cells #[.int .i64 x.id, .int .i64 x.po, .int .i64 x.rg.ep, .int .i64 x.rg.ow, .int .i64 x.rg.pa, .slice x.aT x.two.length x.cT, .slice x.aN x.net.length x.cN, .slice x.aG x.ga.length x.cG, .slice x.aL x.ln.length x.cL, .slice x.aS x.sd.length x.cS] 30)).alloc (Obj.cells #[.int .i64 0, .int .i64 0, .int .i64 0, .int .i64 0, .int .i64 0, .slice none 0 0, .slice none 0 0, .slice none 0 0, .slice none 0 0, .slice none 0 0] 39)).alloc (Obj.cells #[.int .i64 x.id, .int .i64 x.po, .int .i64 0, .int .i64 0, .int .i64 0, .slice none 0 0, .slice none 0 0, .slice none 0 0, .slice none 0 0, .slice none 0 0] 39))
 have B0 : Below w.heap.size w y := by rw [hy]; exact (((Below.refl _ _).alloc (Nat.le_refl _) _).alloc (by simp) _).alloc (by simp; omega) _
 have A : BxAt y w.heap.size x := by rw [hy]; constructor <;> simp [go_sem]
 have Z : BxB y (w.heap.size + 1) BxD.zero := by rw [hy]; refine ⟨?_, fun i => ?_⟩; constructor <;> simp [go_sem, BxD.zero]; simp [go_sem]
 have Ob : BxB y (w.heap.size + 1 + 1) ⟨x.id, x.po, ⟨0, 0, 0⟩, [], none, 0, [], none, 0, [], none, 0, [], none, 0, [], none, 0⟩ := by rw [hy]; refine ⟨?_, fun i => ?_⟩; constructor <;> simp [go_sem]; simp [go_sem]
 have S0 := Ob.lt
 have I := I.below B0
 go_enter Tryz.func7, Tryz.ntmps7
 have cc := A
 obtain ⟨a0, a1, a2, a3, a4, a5, a6, a7, a8, a9⟩ := cc
 have cc := Ob
 obtain ⟨⟨o0, o1, o2, o3, o4, o5, o6, o7, o8, o9⟩, of⟩ := cc
 go_wp2_with fail
 go_at_call 21
 rw [← hy]
 clear a0 a1 a2 a3 a4 a5 a6 a7 a8 a9 o0 o1 o2 o3 o4 o5 o6 o7 o8 o9 of  hy
 refine (toRg x.rg y).mono ?_
 rintro e u0 ⟨rfl, k0⟩
 have A := A.below k0 A.lt
 have Z := Z.below k0 Z.lt
 have Ob := Ob.below k0 Ob.lt
 have I := I.below k0
 have B0 := B0.trans (k0.mono B0.size)
 have sk0 := k0.size
 clear k0
 obtain ⟨v0, hv0⟩ := mk_ (((u0.setCell ⟨w.heap.size + 1 + 1, 2, none⟩ (.int .i64 x.rg.ep)).setCell ⟨w.heap.size + 1 + 1, 3, none⟩ (.int .i64 x.rg.ow)).setCell ⟨w.heap.size + 1 + 1, 4, none⟩ (.int .i64 x.rg.pa))
 have kp : ∀ k, k ≠ w.heap.size + 1 + 1 → v0.heap[k]? = u0.heap[k]? := fun k hk => by rw [hv0, Below.heap_setCell _ _ _ _ hk, Below.heap_setCell _ _ _ _ hk, Below.heap_setCell _ _ _ _ hk]
 have sz : v0.heap.size = u0.heap.size := by rw [hv0]; simp
 have Ob2 : BxB v0 (w.heap.size + 1 + 1) ⟨x.id, x.po, x.rg, [], none, 0, [], none, 0, [], none, 0, [], none, 0, [], none, 0⟩ := by rw [hv0]; exact Ob.sR x.rg
 have BB : Below w.heap.size w v0 := by rw [hv0]; exact (((B0.setCell (p := ⟨w.heap.size + 1 + 1, _, none⟩) (by show _ ≤ w.heap.size + 1 + 1; omega) _).setCell (p := ⟨w.heap.size + 1 + 1, _, none⟩) (by show _ ≤ w.heap.size + 1 + 1; omega) _).setCell (p := ⟨w.heap.size + 1 + 1, _, none⟩) (by show _ ≤ w.heap.size + 1 + 1; omega) _)
 have A2 := A.keep (kp _ (by omega))
 have Z2 := Z.keep (kp _ (by omega))
 have I2 : BxIn v0 x := I.kept hin (fun g hg => kp g (by omega))
 have szl := Nat.le_of_eq sz.symm
 have szr := Nat.le_of_eq sz
 clear kp sz
 have cc := A
 obtain ⟨a0, a1, a2, a3, a4, a5, a6, a7, a8, a9⟩ := cc
 have cc := Ob
 obtain ⟨⟨o0, o1, o2, o3, o4, o5, o6, o7, o8, o9⟩, of⟩ := cc
 have f2 := of 2
 have f3 := of 3
 have f4 := of 4
 go_wp2_with fail
 go_at_call 22
 rw [← hv0]
 clear a0 a1 a2 a3 a4 a5 a6 a7 a8 a9 o0 o1 o2 o3 o4 o5 o6 o7 o8 o9 of f2 f3 f4 hv0
 clear A Z I Ob B0 
 have A := A2
 have Z := Z2
 have I := I2
 have Ob := Ob2
 have B0 := BB
 clear A2 Z2 I2 Ob2 BB 
 refine (mdTo x.aT x.cT x.two v0 I.t K.t K.ls).mono ?_
 rintro e u1 ⟨Ns, rfl, F⟩
 have k1 : Below v0.heap.size v0 u1 := F.bel
 have OT := F.own
 clear F
 have A := A.below k1 A.lt
 have Z := Z.below k1 Z.lt
 have Ob := Ob.below k1 Ob.lt
 have I := I.below k1
 have B0 := B0.trans (k1.mono B0.size)
 have sk1 := k1.size
 clear k1
 obtain ⟨gT, hgT⟩ := mk_ v0.heap.size
 rw [← hgT] at OT ⊢
 have qgT : w.heap.size + 1 + 1 < gT := by omega
 have rgT : gT ≤ u1.heap.size := by omega
 clear hgT
 have lOT : True := trivial
 obtain ⟨v1, hv1⟩ := mk_ (u1.setCell ⟨w.heap.size + 1 + 1, 5, none⟩ (.slice (some ⟨gT, 0, none⟩) x.two.length x.two.length))
 have kp : ∀ k, k ≠ w.heap.size + 1 + 1 → v1.heap[k]? = u1.heap[k]? := fun k hk => by rw [hv1, Below.heap_setCell _ _ _ _ hk]
 have sz : v1.heap.size = u1.heap.size := by rw [hv1]; simp
 have Ob2 : BxB v1 (w.heap.size + 1 + 1) ⟨x.id, x.po, x.rg, (cpyM x.two Ns), some ⟨gT, 0, none⟩, x.two.length, [], none, 0, [], none, 0, [], none, 0, [], none, 0⟩ := by rw [hv1]; exact Ob.sT (cpyM x.two Ns) (some ⟨gT, 0, none⟩) x.two.length x.two.length (cpyM_len _ _).symm
 have BB : Below w.heap.size w v1 := by rw [hv1]; exact (B0.setCell (p := ⟨w.heap.size + 1 + 1, _, none⟩) (by show _ ≤ w.heap.size + 1 + 1; omega) _)
 have A2 := A.keep (kp _ (by omega))
 have Z2 := Z.keep (kp _ (by omega))
 have I2 : BxIn v1 x := I.kept hin (fun g hg => kp g (by omega))
 have OT2 := OT.keep (fun g h1 h2 => kp g (by omega))
 have szl := Nat.le_of_eq sz.symm
 have szr := Nat.le_of_eq sz
 clear kp sz
 have cc := A
 obtain ⟨a0, a1, a2, a3, a4, a5, a6, a7, a8, a9⟩ := cc
 have cc := Ob
 obtain ⟨⟨o0, o1, o2, o3, o4, o5, o6, o7, o8, o9⟩, of⟩ := cc
 have f5 := of 5
 go_wp2_with fail
 go_at_call 23
 rw [← hv1]
 clear a0 a1 a2 a3 a4 a5 a6 a7 a8 a9 o0 o1 o2 o3 o4 o5 o6 o7 o8 o9 of f5 hv1
 clear A Z I Ob B0 OT
 have A := A2
 have Z := Z2
 have I := I2
 have Ob := Ob2
 have OT := OT2
 have B0 := BB
 clear A2 Z2 I2 Ob2 BB OT2
 refine (wiToS x.aN x.cN x.net v1 I.n K.n).mono ?_
 rintro e u2 ⟨rfl, ON, k2⟩
 have A := A.below k2 A.lt
 have Z := Z.below k2 Z.lt
 have Ob := Ob.below k2 Ob.lt
 have I := I.below k2
 have OT := OT.below k2 (by omega)
 have B0 := B0.trans (k2.mono B0.size)
 have sk2 := k2.size
 clear k2
 obtain ⟨gN, hgN⟩ := mk_ v1.heap.size
 rw [← hgN] at ON ⊢
 have qgN : w.heap.size + 1 + 1 < gN := by omega
 have rgN : gN ≤ u2.heap.size := by omega
 have tgN : u1.heap.size ≤ gN := by omega
 clear hgN
 have lON : ∀ g, (Value.slice (some ⟨gN, 0, none⟩) x.net.length x.net.length).ownBlock = some g → w.heap.size + 1 + 1 < g ∧ g < u2.heap.size := fun g e => by have := ON.lt g e; omega
 obtain ⟨v2, hv2⟩ := mk_ (u2.setCell ⟨w.heap.size + 1 + 1, 6, none⟩ (.slice (some ⟨gN, 0, none⟩) x.net.length x.net.length))
 have kp : ∀ k, k ≠ w.heap.size + 1 + 1 → v2.heap[k]? = u2.heap[k]? := fun k hk => by rw [hv2, Below.heap_setCell _ _ _ _ hk]
 have sz : v2.heap.size = u2.heap.size := by rw [hv2]; simp
 have Ob2 : BxB v2 (w.heap.size + 1 + 1) ⟨x.id, x.po, x.rg, (cpyM x.two Ns), some ⟨gT, 0, none⟩, x.two.length, x.net, some ⟨gN, 0, none⟩, x.net.length, [], none, 0, [], none, 0, [], none, 0⟩ := by rw [hv2]; exact Ob.sN x.net (some ⟨gN, 0, none⟩) x.net.length x.net.length rfl
 have BB : Below w.heap.size w v2 := by rw [hv2]; exact (B0.setCell (p := ⟨w.heap.size + 1 + 1, _, none⟩) (by show _ ≤ w.heap.size + 1 + 1; omega) _)
 have A2 := A.keep (kp _ (by omega))
 have Z2 := Z.keep (kp _ (by omega))
 have I2 : BxIn v2 x := I.kept hin (fun g hg => kp g (by omega))
 have OT2 := OT.keep (fun g h1 h2 => kp g (by omega))
 have ON2 := ON.keep (fun g e => kp g (by have := lON g e; omega))
 have szl := Nat.le_of_eq sz.symm
 have szr := Nat.le_of_eq sz
 clear kp sz
 have cc := A
 obtain ⟨a0, a1, a2, a3, a4, a5, a6, a7, a8, a9⟩ := cc
 have cc := Ob
 obtain ⟨⟨o0, o1, o2, o3, o4, o5, o6, o7, o8, o9⟩, of⟩ := cc
 have f6 := of 6
 go_wp2_with fail
 go_at_call 24
 rw [← hv2]
 clear a0 a1 a2 a3 a4 a5 a6 a7 a8 a9 o0 o1 o2 o3 o4 o5 o6 o7 o8 o9 of f6 hv2
 clear A Z I Ob B0 OT ON
 have A := A2
 have Z := Z2
 have I := I2
 have Ob := Ob2
 have OT := OT2
 have ON := ON2
 have B0 := BB
 clear A2 Z2 I2 Ob2 BB OT2 ON2
 refine (boToS x.aG x.cG x.ga v2 I.g K.g).mono ?_
 rintro e u3 ⟨rfl, OG, k3⟩
 have A := A.below k3 A.lt
 have Z := Z.below k3 Z.lt
 have Ob := Ob.below k3 Ob.lt
 have I := I.below k3
 have ON := ON.later k3
 have OT := OT.below k3 (by omega)
 have B0 := B0.trans (k3.mono B0.size)
 have sk3 := k3.size
 clear k3
 obtain ⟨gG, hgG⟩ := mk_ v2.heap.size
 rw [← hgG] at OG ⊢
 have qgG : w.heap.size + 1 + 1 < gG := by omega
 have rgG : gG ≤ u3.heap.size := by omega
 have tgG : u1.heap.size ≤ gG := by omega
 clear hgG
 have lOG : ∀ g, (Value.slice (some ⟨gG, 0, none⟩) x.ga.length x.ga.length).ownBlock = some g → w.heap.size + 1 + 1 < g ∧ g < u3.heap.size := fun g e => by have := OG.lt g e; omega
 obtain ⟨v3, hv3⟩ := mk_ (u3.setCell ⟨w.heap.size + 1 + 1, 7, none⟩ (.slice (some ⟨gG, 0, none⟩) x.ga.length x.ga.length))
 have kp : ∀ k, k ≠ w.heap.size + 1 + 1 → v3.heap[k]? = u3.heap[k]? := fun k hk => by rw [hv3, Below.heap_setCell _ _ _ _ hk]
 have sz : v3.heap.size = u3.heap.size := by rw [hv3]; simp
 have Ob2 : BxB v3 (w.heap.size + 1 + 1) ⟨x.id, x.po, x.rg, (cpyM x.two Ns), some ⟨gT, 0, none⟩, x.two.length, x.net, some ⟨gN, 0, none⟩, x.net.length, x.ga, some ⟨gG, 0, none⟩, x.ga.length, [], none, 0, [], none, 0⟩ := by rw [hv3]; exact Ob.sG x.ga (some ⟨gG, 0, none⟩) x.ga.length x.ga.length rfl
 have BB : Below w.heap.size w v3 := by rw [hv3]; exact (B0.setCell (p := ⟨w.heap.size + 1 + 1, _, none⟩) (by show _ ≤ w.heap.size + 1 + 1; omega) _)
 have A2 := A.keep (kp _ (by omega))
 have Z2 := Z.keep (kp _ (by omega))
 have I2 : BxIn v3 x := I.kept hin (fun g hg => kp g (by omega))
 have OT2 := OT.keep (fun g h1 h2 => kp g (by omega))
 have ON2 := ON.keep (fun g e => kp g (by have := lON g e; omega))
 have OG2 := OG.keep (fun g e => kp g (by have := lOG g e; omega))
 have szl := Nat.le_of_eq sz.symm
 have szr := Nat.le_of_eq sz
 clear kp sz
 have cc := A
 obtain ⟨a0, a1, a2, a3, a4, a5, a6, a7, a8, a9⟩ := cc
 have cc := Ob
 obtain ⟨⟨o0, o1, o2, o3, o4, o5, o6, o7, o8, o9⟩, of⟩ := cc
 have f7 := of 7
 go_wp2_with fail
 go_at_call 25
 rw [← hv3]
 clear a0 a1 a2 a3 a4 a5 a6 a7 a8 a9 o0 o1 o2 o3 o4 o5 o6 o7 o8 o9 of f7 hv3
 clear A Z I Ob B0 OT ON OG
 have A := A2
 have Z := Z2
 have I := I2
 have Ob := Ob2
 have OT := OT2
 have ON := ON2
 have OG := OG2
 have B0 := BB
 clear A2 Z2 I2 Ob2 BB OT2 ON2 OG2
 refine (ikToS x.aL x.cL x.ln v3 I.i K.i).mono ?_
 rintro e u4 ⟨rfl, OL, k4⟩
 have A := A.below k4 A.lt
 have Z := Z.below k4 Z.lt
 have Ob := Ob.below k4 Ob.lt
 have I := I.below k4
 have ON := ON.later k4
 have OG := OG.later k4
 have OT := OT.below k4 (by omega)
 have B0 := B0.trans (k4.mono B0.size)
 have sk4 := k4.size
 clear k4
 obtain ⟨gL, hgL⟩ := mk_ v3.heap.size
 rw [← hgL] at OL ⊢
 have qgL : w.heap.size + 1 + 1 < gL := by omega
 have rgL : gL ≤ u4.heap.size := by omega
 have tgL : u1.heap.size ≤ gL := by omega
 clear hgL
 have lOL : ∀ g, (Value.slice (some ⟨gL, 0, none⟩) x.ln.length x.ln.length).ownBlock = some g → w.heap.size + 1 + 1 < g ∧ g < u4.heap.size := fun g e => by have := OL.lt g e; omega
 obtain ⟨v4, hv4⟩ := mk_ (u4.setCell ⟨w.heap.size + 1 + 1, 8, none⟩ (.slice (some ⟨gL, 0, none⟩) x.ln.length x.ln.length))
 have kp : ∀ k, k ≠ w.heap.size + 1 + 1 → v4.heap[k]? = u4.heap[k]? := fun k hk => by rw [hv4, Below.heap_setCell _ _ _ _ hk]
 have sz : v4.heap.size = u4.heap.size := by rw [hv4]; simp
 have Ob2 : BxB v4 (w.heap.size + 1 + 1) ⟨x.id, x.po, x.rg, (cpyM x.two Ns), some ⟨gT, 0, none⟩, x.two.length, x.net, some ⟨gN, 0, none⟩, x.net.length, x.ga, some ⟨gG, 0, none⟩, x.ga.length, x.ln, some ⟨gL, 0, none⟩, x.ln.length, [], none, 0⟩ := by rw [hv4]; exact Ob.sL x.ln (some ⟨gL, 0, none⟩) x.ln.length x.ln.length rfl
 have BB : Below w.heap.size w v4 := by rw [hv4]; exact (B0.setCell (p := ⟨w.heap.size + 1 + 1, _, none⟩) (by show _ ≤ w.heap.size + 1 + 1; omega) _)
 have A2 := A.keep (kp _ (by omega))
 have Z2 := Z.keep (kp _ (by omega))
 have I2 : BxIn v4 x := I.kept hin (fun g hg => kp g (by omega))
 have OT2 := OT.keep (fun g h1 h2 => kp g (by omega))
 have ON2 := ON.keep (fun g e => kp g (by have := lON g e; omega))
 have OG2 := OG.keep (fun g e => kp g (by have := lOG g e; omega))
 have OL2 := OL.keep (fun g e => kp g (by have := lOL g e; omega))
 have szl := Nat.le_of_eq sz.symm
 have szr := Nat.le_of_eq sz
 clear kp sz
 have cc := A
 obtain ⟨a0, a1, a2, a3, a4, a5, a6, a7, a8, a9⟩ := cc
 have cc := Ob
 obtain ⟨⟨o0, o1, o2, o3, o4, o5, o6, o7, o8, o9⟩, of⟩ := cc
 have f8 := of 8
 go_wp2_with fail
 go_at_call 26
 rw [← hv4]
 clear a0 a1 a2 a3 a4 a5 a6 a7 a8 a9 o0 o1 o2 o3 o4 o5 o6 o7 o8 o9 of f8 hv4
 clear A Z I Ob B0 OT ON OG OL
 have A := A2
 have Z := Z2
 have I := I2
 have Ob := Ob2
 have OT := OT2
 have ON := ON2
 have OG := OG2
 have OL := OL2
 have B0 := BB
 clear A2 Z2 I2 Ob2 BB OT2 ON2 OG2 OL2
 refine (ouToS x.aS x.cS x.sd v4 I.s K.s).mono ?_
 rintro e u5 ⟨rfl, OS, k5⟩
 have A := A.below k5 A.lt
 have Z := Z.below k5 Z.lt
 have Ob := Ob.below k5 Ob.lt
 have I := I.below k5
 have ON := ON.later k5
 have OG := OG.later k5
 have OL := OL.later k5
 have OT := OT.below k5 (by omega)
 have B0 := B0.trans (k5.mono B0.size)
 have sk5 := k5.size
 clear k5
 obtain ⟨gS, hgS⟩ := mk_ v4.heap.size
 rw [← hgS] at OS ⊢
 have qgS : w.heap.size + 1 + 1 < gS := by omega
 have rgS : gS ≤ u5.heap.size := by omega
 have tgS : u1.heap.size ≤ gS := by omega
 clear hgS
 have lOS : ∀ g, (Value.slice (some ⟨gS, 0, none⟩) x.sd.length x.sd.length).ownBlock = some g → w.heap.size + 1 + 1 < g ∧ g < u5.heap.size := fun g e => by have := OS.lt g e; omega
 obtain ⟨v5, hv5⟩ := mk_ (u5.setCell ⟨w.heap.size + 1 + 1, 9, none⟩ (.slice (some ⟨gS, 0, none⟩) x.sd.length x.sd.length))
 have kp : ∀ k, k ≠ w.heap.size + 1 + 1 → v5.heap[k]? = u5.heap[k]? := fun k hk => by rw [hv5, Below.heap_setCell _ _ _ _ hk]
 have sz : v5.heap.size = u5.heap.size := by rw [hv5]; simp
 have Ob2 : BxB v5 (w.heap.size + 1 + 1) ⟨x.id, x.po, x.rg, (cpyM x.two Ns), some ⟨gT, 0, none⟩, x.two.length, x.net, some ⟨gN, 0, none⟩, x.net.length, x.ga, some ⟨gG, 0, none⟩, x.ga.length, x.ln, some ⟨gL, 0, none⟩, x.ln.length, x.sd, some ⟨gS, 0, none⟩, x.sd.length⟩ := by rw [hv5]; exact Ob.sS x.sd (some ⟨gS, 0, none⟩) x.sd.length x.sd.length rfl
 have BB : Below w.heap.size w v5 := by rw [hv5]; exact (B0.setCell (p := ⟨w.heap.size + 1 + 1, _, none⟩) (by show _ ≤ w.heap.size + 1 + 1; omega) _)
 have A2 := A.keep (kp _ (by omega))
 have Z2 := Z.keep (kp _ (by omega))
 have I2 : BxIn v5 x := I.kept hin (fun g hg => kp g (by omega))
 have OT2 := OT.keep (fun g h1 h2 => kp g (by omega))
 have ON2 := ON.keep (fun g e => kp g (by have := lON g e; omega))
 have OG2 := OG.keep (fun g e => kp g (by have := lOG g e; omega))
 have OL2 := OL.keep (fun g e => kp g (by have := lOL g e; omega))
 have OS2 := OS.keep (fun g e => kp g (by have := lOS g e; omega))
 have szl := Nat.le_of_eq sz.symm
 have szr := Nat.le_of_eq sz
 clear kp sz
 obtain ⟨X2, hX2⟩ : ∃ X2 : BxD, X2 = ⟨x.id, x.po, x.rg, (cpyM x.two Ns), some ⟨gT, 0, none⟩, x.two.length, x.net, some ⟨gN, 0, none⟩, x.net.length, x.ga, some ⟨gG, 0, none⟩, x.ga.length, x.ln, some ⟨gL, 0, none⟩, x.ln.length, x.sd, some ⟨gS, 0, none⟩, x.sd.length⟩ := ⟨_, rfl⟩
 have hV2 : (.agg #[.int .i64 X2.id, .int .i64 X2.po, .int .i64 X2.rg.ep, .int .i64 X2.rg.ow, .int .i64 X2.rg.pa, .slice X2.aT X2.two.length X2.cT, .slice X2.aN X2.net.length X2.cN, .slice X2.aG X2.ga.length X2.cG, .slice X2.aL X2.ln.length X2.cL, .slice X2.aS X2.sd.length X2.cS] : Value) = .agg #[.int .i64 x.id, .int .i64 x.po, .int .i64 x.rg.ep, .int .i64 x.rg.ow, .int .i64 x.rg.pa, .slice (some ⟨gT, 0, none⟩) x.two.length x.two.length, .slice (some ⟨gN, 0, none⟩) x.net.length x.net.length, .slice (some ⟨gG, 0, none⟩) x.ga.length x.ga.length, .slice (some ⟨gL, 0, none⟩) x.ln.length x.ln.length, .slice (some ⟨gS, 0, none⟩) x.sd.length x.sd.length] := by rw [hX2]; show Value.agg _ = _; rw [cpyM_len]
 have hP2 : X2.p = x.p := by rw [hX2]; unfold BxD.p; dsimp only; rw [cpyM_d]
 have cc := Z2
 obtain ⟨⟨z0, z1, z2, z3, z4, z5, z6, z7, z8, z9⟩, zf⟩ := cc
 obtain ⟨e0, e1, e2, e3, e4, e5, e6, e7, e8, e9⟩ := ten zf
 have cc := Ob2
 obtain ⟨⟨o0, o1, o2, o3, o4, o5, o6, o7, o8, o9⟩, of⟩ := cc
 rw [← hX2] at Ob2
 have cc := Ob
 obtain ⟨⟨p0, p1, p2, p3, p4, p5, p6, p7, p8, p9⟩, pf⟩ := cc
 have f9 := pf 9
 dsimp only at o0 o1 o2 o3 o4 o5 o6 o7 o8 o9
 rw [cpyM_len] at o5
 go_upto_region 10 with fail
 rw [← hv5]
 clear hv5 p0 p1 p2 p3 p4 p5 p6 p7 p8 p9 pf f9
 obtain ⟨v6, hv6⟩ := mk_ ((((((((((v5.setCell ⟨w.heap.size + 1, 0, none⟩ (.int .i64 x.id)).setCell ⟨w.heap.size + 1, 1, none⟩ (.int .i64 x.po)).setCell ⟨w.heap.size + 1, 2, none⟩ (.int .i64 x.rg.ep)).setCell ⟨w.heap.size + 1, 3, none⟩ (.int .i64 x.rg.ow)).setCell ⟨w.heap.size + 1, 4, none⟩ (.int .i64 x.rg.pa)).setCell ⟨w.heap.size + 1, 5, none⟩ (.slice (some ⟨gT, 0, none⟩) x.two.length x.two.length)).setCell ⟨w.heap.size + 1, 6, none⟩ (.slice (some ⟨gN, 0, none⟩) x.net.length x.net.length)).setCell ⟨w.heap.size + 1, 7, none⟩ (.slice (some ⟨gG, 0, none⟩) x.ga.length x.ga.length)).setCell ⟨w.heap.size + 1, 8, none⟩ (.slice (some ⟨gL, 0, none⟩) x.ln.length x.ln.length)).setCell ⟨w.heap.size + 1, 9, none⟩ (.slice (some ⟨gS, 0, none⟩) x.sd.length x.sd.length))
 have ZZ := Z2.put X2
 have kp : ∀ k, k ≠ w.heap.size + 1 → v6.heap[k]? = v5.heap[k]? := fun k hk => by rw [hv6, Below.heap_setCell _ _ _ _ hk, Below.heap_setCell _ _ _ _ hk, Below.heap_setCell _ _ _ _ hk, Below.heap_setCell _ _ _ _ hk, Below.heap_setCell _ _ _ _ hk, Below.heap_setCell _ _ _ _ hk, Below.heap_setCell _ _ _ _ hk, Below.heap_setCell _ _ _ _ hk, Below.heap_setCell _ _ _ _ hk, Below.heap_setCell _ _ _ _ hk]
 have B6 : Below w.heap.size w v6 := by rw [hv6]; exact ((((((((((BB.setCell (p := ⟨w.heap.size + 1, 0, none⟩) (by show _ ≤ w.heap.size + 1; omega) _).setCell (p := ⟨w.heap.size + 1, 1, none⟩) (by show _ ≤ w.heap.size + 1; omega) _).setCell (p := ⟨w.heap.size + 1, 2, none⟩) (by show _ ≤ w.heap.size + 1; omega) _).setCell (p := ⟨w.heap.size + 1, 3, none⟩) (by show _ ≤ w.heap.size + 1; omega) _).setCell (p := ⟨w.heap.size + 1, 4, none⟩) (by show _ ≤ w.heap.size + 1; omega) _).setCell (p := ⟨w.heap.size + 1, 5, none⟩) (by show _ ≤ w.heap.size + 1; omega) _).setCell (p := ⟨w.heap.size + 1, 6, none⟩) (by show _ ≤ w.heap.size + 1; omega) _).setCell (p := ⟨w.heap.size + 1, 7, none⟩) (by show _ ≤ w.heap.size + 1; omega) _).setCell (p := ⟨w.heap.size + 1, 8, none⟩) (by show _ ≤ w.heap.size + 1; omega) _).setCell (p := ⟨w.heap.size + 1, 9, none⟩) (by show _ ≤ w.heap.size + 1; omega) _)
 have s6 : v6.heap.size = v5.heap.size := by rw [hv6]; simp
 have OT2 := OT2.keep (w' := v6) (fun g h1 h2 => kp g (by omega))
 have ON2 := ON2.keep (w' := v6) (fun g e => kp g (by have := lON g e; omega))
 have OG2 := OG2.keep (w' := v6) (fun g e => kp g (by have := lOG g e; omega))
 have OL2 := OL2.keep (w' := v6) (fun g e => kp g (by have := lOL g e; omega))
 have OS2 := OS2.keep (w' := v6) (fun g e => kp g (by have := lOS g e; omega))
 have hM : BxM w.heap.size v6.heap.size v6 X2 := by
  rw [hX2]
  refine ⟨?_, ON2.base (by omega), OG2.base (by omega), OL2.base (by omega), OS2.base (by omega), fun b e => (by have := lON b e; omega), fun b e => (by have := lOG b e; omega), fun b e => (by have := lOL b e; omega), fun b e => (by have := lOS b e; omega), fun j hj b e e2 => ?_⟩
  ·
   show MOwn _ _ _ (.slice _ (cpyM x.two Ns).length _) _
   rw [cpyM_len]
   exact OT2.wide (by omega) (by omega)
  ·
   have h1 := OT2.nhi j hj b e
   have h2 := (OL2.lt b e2).1
   omega
 obtain ⟨⟨t0, t1, t2, t3, t4, t5, t6, t7, t8, t9⟩, tf⟩ : BxB v6 (w.heap.size + 1) X2 := by rw [hv6]; have := Z2.put X2; rw [hX2] at this; dsimp only at this; rw [cpyM_len] at this; rw [hX2]; exact this
 rw [hX2] at t0 t1 t2 t3 t4 t5 t6 t7 t8 t9
 dsimp only at t0 t1 t2 t3 t4 t5 t6 t7 t8 t9
 rw [cpyM_len] at t5
 clear tf
 go_wp2
 refine bodyPost_ret (v := .agg #[.int .i64 x.id, .int .i64 x.po, .int .i64 x.rg.ep, .int .i64 x.rg.ow, .int .i64 x.rg.pa, .slice (some ⟨gT, 0, none⟩) x.two.length x.two.length, .slice (some ⟨gN, 0, none⟩) x.net.length x.net.length, .slice (some ⟨gG, 0, none⟩) x.ga.length x.ga.length, .slice (some ⟨gL, 0, none⟩) x.ln.length x.ln.length, .slice (some ⟨gS, 0, none⟩) x.sd.length x.sd.length]) (by simp [results, Tryz.results7, go_sem, *]) rfl ⟨X2, by rw [hV2], hP2, by rw [← hv6]; exact hM, by rw [← hv6]; exact B6⟩
set_option maxHeartbeats 2000000 in
theorem regOkI (r : Rg) (w : World) : Calls Tryz.prog 76 #[.agg #[.int .i64 r.ep, .int .i64 r.ow, .int .i64 r.pa]] w fun e w' => e = .returned (.bool (rgOk r)) ∧ Below w.heap.size w w' := by
 obtain ⟨R, hR⟩ := mk_ (rgOk r)
 rw [← hR]
 replace hR : Hid _ := hR
 obtain ⟨y, hy⟩ := mk_ (w.alloc (Obj.cells #[.int .i64 r.ep, .int .i64 r.ow, .int .i64 r.pa] 33))
 have B0 : Below w.heap.size w y := by rw [hy]; exact below_new _
 have A : RgAt y w.heap.size r := by rw [hy]; exact RgAt.new w _ r
 go_enter Tryz.func76, Tryz.ntmps76
 go_upto_region 1 with fail
 rw [← hy]
 clear hy
 obtain ⟨a0, a1, a2⟩ := A
 by_cases e1 : 1 ≤ r.ep
 ·
  have d1 : decide (1 ≤ r.ep) = true := decide_eq_true e1
  by_cases e2 : r.ep ≤ 100000
  ·
   have d2 : decide (r.ep ≤ 100000) = true := decide_eq_true e2
   by_cases e3 : r.ow = 0
   ·
    have d3 : decide (r.ow = 0) = true := decide_eq_true e3
    have b3 : (r.ow == 0) = true := by simpa using e3
    have hN : Hid (R = numB r.pa) := by unfold Hid; rw [hR.out]; unfold rgOk; rw [decide_eq_true (⟨e1, e2⟩ : 1 ≤ r.ep ∧ r.ep ≤ 100000), decide_eq_true (show 0 ≤ r.ow ∧ r.ow ≤ 1 by omega)]; rfl
    replace e1 : Hid _ := e1
    replace e2 : Hid _ := e2
    replace e3 : Hid _ := e3
    go_wp2_with fail
    go_at_call 101
    refine (numFitsI r.pa y).mono ?_
    rintro e w' ⟨rfl, rfl⟩
    go_wp2
    go_ret
    exact ⟨by rw [hN.out]; rfl, B0⟩
   ·
    have d3 : decide (r.ow = 0) = false := decide_eq_false e3
    have b3 : (r.ow == 0) = false := by simpa using e3
    by_cases e4 : r.ow = 1
    ·
     have d4 : decide (r.ow = 1) = true := decide_eq_true e4
     have b4 : (r.ow == 1) = true := by simpa using e4
     have hN : Hid (R = numB r.pa) := by unfold Hid; rw [hR.out]; unfold rgOk; rw [decide_eq_true (⟨e1, e2⟩ : 1 ≤ r.ep ∧ r.ep ≤ 100000), decide_eq_true (show 0 ≤ r.ow ∧ r.ow ≤ 1 by omega)]; rfl
     replace e1 : Hid _ := e1
     replace e2 : Hid _ := e2
     replace e3 : Hid _ := e3
     replace e4 : Hid _ := e4
     go_wp2_with fail
     go_at_call 101
     refine (numFitsI r.pa y).mono ?_
     rintro e w' ⟨rfl, rfl⟩
     go_wp2
     go_ret
     exact ⟨by rw [hN.out]; rfl, B0⟩
    ·
     have d4 : decide (r.ow = 1) = false := decide_eq_false e4
     have b4 : (r.ow == 1) = false := by simpa using e4
     have hN : Hid (R = false) := by unfold Hid; rw [hR.out]; unfold rgOk; rw [decide_eq_true (⟨e1, e2⟩ : 1 ≤ r.ep ∧ r.ep ≤ 100000), decide_eq_false (show ¬ (0 ≤ r.ow ∧ r.ow ≤ 1) by omega)]; rfl
     replace e1 : Hid _ := e1
     replace e2 : Hid _ := e2
     replace e3 : Hid _ := e3
     replace e4 : Hid _ := e4
     go_wp2
     go_ret
     exact ⟨by rw [hN.out]; rfl, B0⟩
  ·
   have d2 : decide (r.ep ≤ 100000) = false := decide_eq_false e2
   have hN : Hid (R = false) := by unfold Hid; rw [hR.out]; unfold rgOk; rw [decide_eq_false (show ¬ (1 ≤ r.ep ∧ r.ep ≤ 100000) by omega)]; rfl
   replace e1 : Hid _ := e1
   replace e2 : Hid _ := e2
   go_wp2
   go_ret
   exact ⟨by rw [hN.out]; rfl, B0⟩
 ·
  have d1 : decide (1 ≤ r.ep) = false := decide_eq_false e1
  have hN : Hid (R = false) := by unfold Hid; rw [hR.out]; unfold rgOk; rw [decide_eq_false (show ¬ (1 ≤ r.ep ∧ r.ep ≤ 100000) by omega)]; rfl
  replace e1 : Hid _ := e1
  go_wp2
  go_ret
  exact ⟨by rw [hN.out]; rfl, B0⟩
end Go.Proofs.YtnpiljegdiconabGreat
