/- Lists of minders: copied. Registers: how they come in, copied, compared. laws.toBox, walked. Lists of minders: compared. Lists of wires: compared. Lists of flags: marked, held, compared. Lists of what is said: compared. laws.eqBox, walked. spec.RootPort, walked. spec.Own, spec.Hops, walked. spec.Turn, walked. spec.Decide, walked. spec.Claim, walked. spec.l8In: a claim, walked. spec.l8Tick, walked. spec.l8In: a tick, walked. spec.l8In: a link, walked. spec.React, walked. How much is said. What a log makes and says. The judges, in plain words. spec.BridgeNew, walked. spec.l14Minds, spec.l15Who, walked. spec.BoxOk, walked. slices.Equal of what comes in, what goes out, and flags. Boxes of one size; both Released, walked. The rules of the judge: who is paired, who has Line. spec.Heir. impl.numFits, slices.Clone of In, journalOf, mindingOf, walked. -/
import Derived.Test.YtnpiljegdiconabZh1
import Derived.Test.YtnpiljegdiconabRows
import Derived.WalkKit
import Derived.ProofKit
import Derived.OpenShut
import Derived.ShutString
import Derived.ChangeOld
import Derived.Below
import Derived.Deep.QuietTactic
import Derived.BigQuiet
import Derived.WalkSmall
import Derived.Laws.OwnMore
import Derived.WalkSpells
import Derived.WalkLawsBesides
import Derived.Test.YtnpiljegdiconabMd0
import Derived.Test.YtnpiljegdiconabMi2
import Derived.Lib.SmallJoins
import Derived.Deep.Cut
import Derived.Test.YtnpiljegdiconabTakes
import Derived.Test.YtnpiljegdiconabGa1
import Derived.Test.YtnpiljegdiconabRe1
import Derived.Test.YtnpiljegdiconabIs3
import Derived.Test.YtnpiljegdiconabBr5
import Derived.Test.YtnpiljegdiconabBr6
import Derived.Test.YtnpiljegdiconabPort6
import Derived.Test.YtnpiljegdiconabBr7
import Derived.Test.YtnpiljegdiconabPort4
import Derived.Test.YtnpiljegdiconabRe2
import Derived.Test.YtnpiljegdiconabIn3
import Derived.Maps.AppendAt
import Derived.Test.YtnpiljegdiconabRe3
import Derived.Test.YtnpiljegdiconabMd12
import Derived.Test.YtnpiljegdiconabBr9
import Derived.Test.YtnpiljegdiconabIs1
import Derived.Test.YtnpiljegdiconabBxd1
import Derived.Laws.StructEq
import Derived.Test.YtnpiljegdiconabMi1
import Derived.Test.YtnpiljegdiconabIs2
import Derived.Test.YtnpiljegdiconabFlatApp
namespace Go.Proofs.Ytnpiljegdiconab
open Go.ChangeShapes Go.WideShapes Go.ChangeAt Go.RowKit
open Go.ChangeMaps (open_string shut_string)
set_option linter.unusedVariables false
set_option maxRecDepth 100000

/-- The same, its list at the block n. -/
def MiD.to (m : MiD) (n : Nat) : MiD := ⟨m.m, some ⟨n, 0, none⟩, m.m.lg.length⟩
/-- The list of the copies. -/
def cpyM (Bs : List MiD) (Ns : Nat → Nat) : List MiD := (List.range Bs.length).map (fun j => (Bs.getD j MiD.nil).to (Ns j))
theorem cpyM_len (Bs : List MiD) (Ns : Nat → Nat) : (cpyM Bs Ns).length = Bs.length := by simp [cpyM]
theorem cpyM_get (Bs : List MiD) (Ns : Nat → Nat) {j : Nat} (h : j < Bs.length) : (cpyM Bs Ns).getD j MiD.nil = (Bs.getD j MiD.nil).to (Ns j) := by simp [cpyM, List.getD, h]
theorem cpyM_d (Bs : List MiD) (Ns : Nat → Nat) : (cpyM Bs Ns).map MiD.m = Bs.map MiD.m := by
  refine List.ext_getElem (by simp [cpyM]) fun i h1 h2 => ?_
  have hi : i < Bs.length := by simpa using h2
  simp [cpyM, MiD.to, List.getD, hi]
theorem FFill.congrM {X : Type} {enc : X → List Value} {n : Nat} (hn : ∀ x, (enc x).length = n) (h0 : 0 < n) (d : X) {T : TypeId} {base : Nat} {w : World} {g : Nat} {L M : List X} {k : Nat} (h : FFill enc n T base w g L k) (hk : k ≤ L.length) (hl : M.length = L.length) (e : ∀ i, i < k → M.getD i d = L.getD i d) : FFill enc n T base w g M k := by
  obtain ⟨xs, h1, h2⟩ := h
  refine ⟨xs, by rw [hl]; exact h1, fun j hj => ?_⟩
  rw [h2 j hj]
  have hq : j / n < k := Nat.div_lt_of_lt_mul (by rw [Nat.mul_comm]; exact hj)
  have hr : j % n < n := Nat.mod_lt _ h0
  have ej : j = j / n * n + j % n := by rw [Nat.mul_comm]; exact (Nat.div_add_mod j n).symm
  rw [ej, fcells_at hn d L _ _ (by omega) hr, fcells_at hn d M _ _ (by omega) hr, e _ hq]
/-- What a loop that fills the block B with minders has done behind k rounds; Ns: where their lists lie. -/
structure MF (B : Nat) (Bs : List MiD) (Ns : Nat → Nat) (k : Nat) (w wr : World) : Prop where
  bel : Below B w wr
  fill : FFill mdEnc 7 49 B wr B (cpyM Bs Ns) k
  nest : ∀ j, j < k → FOwn ikEnc 8 78 B wr (.slice (some ⟨Ns j, 0, none⟩) (Bs.getD j MiD.nil).m.lg.length (Bs.getD j MiD.nil).m.lg.length) (Bs.getD j MiD.nil).m.lg
  nb : ∀ j, j < k → B < Ns j ∧ Ns j < wr.heap.size
  inc : ∀ i j, i < j → j < k → Ns i < Ns j
theorem MF.later {B : Nat} {Bs : List MiD} {Ns : Nat → Nat} {k : Nat} {w wr w2 : World} (h : MF B Bs Ns k w wr) (b : Below wr.heap.size wr w2) : MF B Bs Ns k w w2 := by
  have hl := h.fill.lt
  have hs := b.size
  exact ⟨h.bel.trans (b.mono (by omega)), h.fill.keep (b.block _ hl.2), fun j hj => (h.nest j hj).later b, fun j hj => ⟨(h.nb j hj).1, by have := (h.nb j hj).2; omega⟩, h.inc⟩
theorem MF.step {B : Nat} {Bs : List MiD} {Ns : Nat → Nat} {k : Nat} {w wr : World} {N : Nat} (h : MF B Bs Ns k w wr) (hk : k < Bs.length) (hN : B < N ∧ N < wr.heap.size) (hi : ∀ j, j < k → Ns j < N)
    (hv : FOwn ikEnc 8 78 B wr (.slice (some ⟨N, 0, none⟩) (Bs.getD k MiD.nil).m.lg.length (Bs.getD k MiD.nil).m.lg.length) (Bs.getD k MiD.nil).m.lg) :
    MF B Bs (fun j => if j = k then N else Ns j) (k + 1) w (((((((wr.setCell ⟨B, k * 7, none⟩ (.bool (Bs.getD k MiD.nil).m.up)).setCell ⟨B, k * 7 + 1, none⟩ (.int .i64 (Bs.getD k MiD.nil).m.li)).setCell ⟨B, k * 7 + 2, none⟩ (.int .i64 (Bs.getD k MiD.nil).m.ep)).setCell ⟨B, k * 7 + 3, none⟩ (.slice (some ⟨N, 0, none⟩) (Bs.getD k MiD.nil).m.lg.length (Bs.getD k MiD.nil).m.lg.length)).setCell ⟨B, k * 7 + 4, none⟩ (.int .i64 (Bs.getD k MiD.nil).m.sd)).setCell ⟨B, k * 7 + 5, none⟩ (.int .i64 (Bs.getD k MiD.nil).m.ac)).setCell ⟨B, k * 7 + 6, none⟩ (.int .i64 (Bs.getD k MiD.nil).m.al)) := by
  have hb : ∀ g, g ≠ B → (((((((wr.setCell ⟨B, k * 7, none⟩ (.bool (Bs.getD k MiD.nil).m.up)).setCell ⟨B, k * 7 + 1, none⟩ (.int .i64 (Bs.getD k MiD.nil).m.li)).setCell ⟨B, k * 7 + 2, none⟩ (.int .i64 (Bs.getD k MiD.nil).m.ep)).setCell ⟨B, k * 7 + 3, none⟩ (.slice (some ⟨N, 0, none⟩) (Bs.getD k MiD.nil).m.lg.length (Bs.getD k MiD.nil).m.lg.length)).setCell ⟨B, k * 7 + 4, none⟩ (.int .i64 (Bs.getD k MiD.nil).m.sd)).setCell ⟨B, k * 7 + 5, none⟩ (.int .i64 (Bs.getD k MiD.nil).m.ac)).setCell ⟨B, k * 7 + 6, none⟩ (.int .i64 (Bs.getD k MiD.nil).m.al)).heap[g]? = wr.heap[g]? := fun g hg => by
    rw [Below.heap_setCell _ _ _ _ hg, Below.heap_setCell _ _ _ _ hg, Below.heap_setCell _ _ _ _ hg, Below.heap_setCell _ _ _ _ hg, Below.heap_setCell _ _ _ _ hg, Below.heap_setCell _ _ _ _ hg, Below.heap_setCell _ _ _ _ hg]
  have F : FFill mdEnc 7 49 B wr B (cpyM Bs (fun j => if j = k then N else Ns j)) k := h.fill.congrM mdEnc_len (by omega) MiD.nil (by rw [cpyM_len]; omega) (by rw [cpyM_len, cpyM_len]) (fun i hi => by
    rw [cpyM_get _ _ (by omega), cpyM_get _ _ (by omega)]
    have : i ≠ k := by omega
    simp only [this, if_false])
  have F1 := F.step mdEnc_len MiD.nil (by rw [cpyM_len]; exact hk)
  rw [cpyM_get _ _ hk, mdPut] at F1
  simp only [if_true, MiD.to] at F1
  refine ⟨(((((((h.bel.setCell (Nat.le_refl _) _).setCell (Nat.le_refl _) _).setCell (Nat.le_refl _) _).setCell (Nat.le_refl _) _).setCell (Nat.le_refl _) _).setCell (Nat.le_refl _) _).setCell (Nat.le_refl _) _), F1, fun j hj => ?_, fun j hj => ?_, fun i j hij hj => ?_⟩
  · by_cases e : j = k
    · subst e
      simp only [if_true]
      exact hv.keep (fun g q => hb _ (by have : N = g := by simpa [Value.ownBlock] using q
                                         omega))
    · simp only [e, if_false]
      exact (h.nest j (by omega)).keep (fun g q => hb _ (by have : Ns j = g := by simpa [Value.ownBlock] using q
                                                            have := (h.nb j (by omega)).1
                                                            omega))
  · by_cases e : j = k
    · simp only [e, if_true]; simpa using hN
    · simp only [e, if_false]; simpa using h.nb j (by omega)
  · by_cases e : j = k
    · have : i ≠ k := by omega
      simp only [e, this, if_true, if_false]
      exact hi i (by omega)
    · have : i ≠ k := by omega
      simp only [e, this, if_false]
      exact h.inc i j hij (by omega)
theorem MF.own {B : Nat} {Bs : List MiD} {Ns : Nat → Nat} {w wr : World} (h : MF B Bs Ns Bs.length w wr) : MOwn B wr.heap.size wr (.slice (some ⟨B, 0, none⟩) Bs.length Bs.length) (cpyM Bs Ns) := by
  have hl := cpyM_len Bs Ns
  have F := h.fill
  rw [← hl] at F
  have O := F.done mdEnc_len
  rw [hl] at O
  have hv : ∀ i, i < Bs.length → ((cpyM Bs Ns).getD i MiD.nil).v = .slice (some ⟨Ns i, 0, none⟩) (Bs.getD i MiD.nil).m.lg.length (Bs.getD i MiD.nil).m.lg.length := fun i hi => by rw [cpyM_get _ _ hi]; rfl
  have hb : ∀ i, i < Bs.length → ∀ g, ((cpyM Bs Ns).getD i MiD.nil).v.ownBlock = some g → Ns i = g := fun i hi g e => by
    rw [hv i hi] at e
    simpa [Value.ownBlock] using e
  refine ⟨O, fun i hi => ?_, fun g e => ?_, fun i hi g e => ?_, fun i hi g g' e e' => ?_, fun i j hij hj g g' e e' => ?_⟩
  · rw [hl] at hi
    rw [hv i hi, cpyM_get _ _ hi]
    exact h.nest i hi
  · obtain rfl : B = g := by simpa [Value.ownBlock] using e
    exact h.fill.lt.2
  · rw [hl] at hi
    have := hb i hi g e
    have := (h.nb i hi).2
    omega
  · rw [hl] at hi
    have := hb i hi g' e'
    have := (h.nb i hi).1
    obtain rfl : B = g := by simpa [Value.ownBlock] using e
    omega
  · rw [hl] at hj
    have := hb i (by omega) g e
    have := hb j hj g' e'
    have := h.inc i j hij hj
    omega
theorem mf_made {w w1 : World} {Bs : List MiD} {Ns : Nat → Nat} {xs : List Value} (hown : w1.ownsRow w.heap.size 49 7 (.slice (some ⟨w.heap.size, 0, none⟩) Bs.length Bs.length) Bs.length xs) (hgrow : w.grownBy w1 none) : MF w.heap.size Bs Ns 0 w w1 := by
  refine ⟨(Below.refl _ _).grown hgrow (Nat.le_refl _) (by simp), FFill.start (by rw [cpyM_len]; exact hown), fun j hj => by omega, fun j hj => by omega, fun i j _ hj => by omega⟩
theorem mdInfo2 : (Try.prog.info? 49).map (fun i => (i.zero, i.size, i.bytes)) = some (some (.agg #[.bool false, .int .i64 0, .int .i64 0, .slice none 0 0, .int .i64 0, .int .i64 0, .int .i64 0]), 7, 72) := by kernel_rfl
set_option maxHeartbeats 1000000 in
theorem mdTo (ad : Option Addr) (cap : Nat) (Bs : List MiD) (w : World) (hv : MV w ad Bs) (hl : Bs.length ≤ 1048576) (hls : ∀ i, i < Bs.length → (Bs.getD i MiD.nil).m.lg.length ≤ 1048576) :
    Calls Try.prog 16 #[.slice ad Bs.length cap] w fun e w' => ∃ Ns, e = .returned (.slice (some ⟨w.heap.size, 0, none⟩) Bs.length Bs.length) ∧ MF w.heap.size Bs Ns Bs.length w w' := by
  obtain ⟨i0, hi, hz0, hz1, hz2⟩ := info_parts mdInfo2
  go_enter Try.func16, Try.ntmps16
  go_wp2_with (first | (refine wpList_make_full _ rfl _ _ 34 rfl w.heap.size 49 i0 (.agg #[.bool false, .int .i64 0, .int .i64 0, .slice none 0 0, .int .i64 0, .int .i64 0, .int .i64 0]) 7 Try.underlying34 hi hz0 hz1 .i64 .i64 _ _ Bs.length rfl rfl rfl rfl ?c1 ?c2 ?c3 ?_))
  case c1 => rw [hz2]; omega
  case c2 => unfold maxLen; omega
  case c3 => exact Nat.le_refl _
  intro w1 hown hgrow
  have F0 : MF w.heap.size Bs (fun _ => 0) 0 w w1 := mf_made hown hgrow
  clear hown hgrow
  go_wp2
  go_loopw [4] (fun i wr => ∃ (k : Nat) (Ns : Nat → Nat), k ≤ Bs.length ∧ i = .int .i64 k ∧ MF w.heap.size Bs Ns k w wr) (fun i _ => Bs.length - (intOf i).toNat)
  case atStart => exact ⟨0, _, Nat.zero_le _, rfl, F0⟩
  case round =>
    obtain ⟨k, Ns, hk, rfl, F⟩ := hrel
    clear F0
    by_cases hlt : k < Bs.length
    · obtain ⟨b, off, rfl⟩ := hv.ad_ (by omega)
      have hck := (hv.below F.bel (Nat.le_refl _)).at_ hlt
      have hnk := (hv.below F.bel (Nat.le_refl _)).nest k hlt
      have hlk := hls k hlt
      have hs := F.bel.size
      have hfl := F.fill.lt
      have st := fun (w2 : World) (N : Nat) (G : MF w.heap.size Bs Ns k w w2) (h1 : wr.heap.size ≤ N) (h2 : N < w2.heap.size) => G.step (N := N) hlt ⟨by omega, h2⟩ (fun j hj => by have := (F.nb j hj).2; omega)
      obtain ⟨m, hh⟩ : ∃ m, Bs.getD k MiD.nil = m := ⟨_, rfl⟩
      rw [hh] at hck hnk hlk
      simp only [hh] at st
      obtain ⟨c0, c1, c2, c3, c4, c5, c6⟩ := hck
      clear hv hls hh
      go_wp2_with fail
      go_at_call 35
      refine (miTo m.m m.ad m.cap wr hnk hlk).mono ?_
      rintro e w2 ⟨N, rfl, n1, n2, o2, k2⟩
      have G := F.later k2
      have G1 := st w2 N G n1 n2 (o2.base hs)
      obtain ⟨u0, hu0⟩ := G.fill.cell (k * 7) (by rw [cpyM_len]; omega)
      obtain ⟨u1, hu1⟩ := G.fill.cell (k * 7 + 1) (by rw [cpyM_len]; omega)
      obtain ⟨u2, hu2⟩ := G.fill.cell (k * 7 + 2) (by rw [cpyM_len]; omega)
      obtain ⟨u3, hu3⟩ := G.fill.cell (k * 7 + 3) (by rw [cpyM_len]; omega)
      obtain ⟨u4, hu4⟩ := G.fill.cell (k * 7 + 4) (by rw [cpyM_len]; omega)
      obtain ⟨u5, hu5⟩ := G.fill.cell (k * 7 + 5) (by rw [cpyM_len]; omega)
      obtain ⟨u6, hu6⟩ := G.fill.cell (k * 7 + 6) (by rw [cpyM_len]; omega)
      have f0 := G.fill.frozen (k * 7)
      have f1 := G.fill.frozen (k * 7 + 1)
      have f2 := G.fill.frozen (k * 7 + 2)
      have f3 := G.fill.frozen (k * 7 + 3)
      have f4 := G.fill.frozen (k * 7 + 4)
      have f5 := G.fill.frozen (k * 7 + 5)
      have f6 := G.fill.frozen (k * 7 + 6)
      clear F G st o2 hnk hfl
      go_wp2
      go_roundw
      case rel => exact ⟨k + 1, _, by omega, by go_num, G1⟩
      case measure => simp [intOf]; omega
    · obtain rfl : k = Bs.length := by omega
      go_wp2
      go_ret
      exact ⟨Ns, rfl, F⟩

end Go.Proofs.Ytnpiljegdiconab
namespace Go.Proofs.Ytnpiljegdiconab
open Go.ChangeShapes Go.WideShapes Go.ChangeAt Go.RowKit
open Go.ChangeMaps (open_string shut_string)
set_option linter.unusedVariables false
set_option maxRecDepth 100000

set_option maxRecDepth 100000 in
theorem rgIn_open {H : Type} {enc : TypeId × Value → H} {w : World} {r : Reach} {b0 : Nat} {v : Value} {d : DataW H} {p : List MemPlace} (hv : Value.okWide Try.prog w r b0 23 v) (h : DataW.Trod enc Try.prog w 0 (fun _ => true) true 23 v d p) :
    ∃ r : Rg, v = .agg #[.int .i64 r.ep, .int .i64 r.ow, .int .i64 r.pa] ∧ True := by
  obtain ⟨v0, v1, v2, y0, y1, y2, n, rfl, _, _, h0, h1, h2⟩ := Go.Joins.open_agg3 Try.underlying23 (by kernel_rfl) (by kernel_rfl) hv h
  obtain ⟨a, ha, _, wa⟩ := DataW.trod_int Try.underlying3 h0
  obtain ⟨b, hb, _, wb⟩ := DataW.trod_int Try.underlying3 h1
  obtain ⟨c, hc, _, wc⟩ := DataW.trod_int Try.underlying3 h2
  simp at ha hb hc
  subst ha hb hc
  exact ⟨⟨a, b, c⟩, rfl, trivial⟩
theorem toRg (r : Rg) (w : World) :
    Calls Try.prog 15 #[.agg #[.int .i64 r.ep, .int .i64 r.ow, .int .i64 r.pa]] w fun e w' => e = .returned (.agg #[.int .i64 r.ep, .int .i64 r.ow, .int .i64 r.pa]) ∧ Below w.heap.size w w' := by
  go_enter Try.func15, Try.ntmps15
  go_wp2
  refine bodyPost_ret (v := .agg #[.int .i64 r.ep, .int .i64 r.ow, .int .i64 r.pa]) (by simp [results, Try.results15, go_sem]) rfl ⟨rfl, ?_⟩
  exact (((Below.refl _ _).alloc (Nat.le_refl _) _).alloc (by simp) _).alloc (by simp; omega) _
set_option maxHeartbeats 1000000 in
theorem eqRg (r : Rg) (w : World) :
    Calls Try.prog 23 #[.agg #[.int .i64 r.ep, .int .i64 r.ow, .int .i64 r.pa], .agg #[.int .i64 r.ep, .int .i64 r.ow, .int .i64 r.pa]] w fun e w' => e = .returned (.bool true) ∧ Below w.heap.size w w' := by
  have d1 : (r.ep != r.ep) = false := by simp
  have d2 : (r.ow != r.ow) = false := by simp
  have d3 : (r.pa != r.pa) = false := by simp
  go_enter Try.func23, Try.ntmps23
  go_wp2
  go_ret
  exact ⟨rfl, ((Below.refl _ _).alloc (Nat.le_refl _) _).alloc (by simp) _⟩

end Go.Proofs.Ytnpiljegdiconab
namespace Go.Proofs.Ytnpiljegdiconab
open Go.ChangeShapes Go.WideShapes Go.ChangeAt Go.RowKit
open Go.ChangeMaps (open_string shut_string)
set_option linter.unusedVariables false
set_option maxRecDepth 100000

/-- Where what a box reads lies. -/
structure BxLt (B : Nat) (x : BxD) : Prop where
  t : ∀ a, x.aT = some a → 0 < x.two.length → a.block < B
  l : ∀ i, i < x.two.length → ∀ a, (x.two.getD i MiD.nil).ad = some a → 0 < (x.two.getD i MiD.nil).m.lg.length → a.block < B
  n : ∀ a, x.aN = some a → 0 < x.net.length → a.block < B
  g : ∀ a, x.aG = some a → 0 < x.ga.length → a.block < B
  i : ∀ a, x.aL = some a → 0 < x.ln.length → a.block < B
  s : ∀ a, x.aS = some a → 0 < x.sd.length → a.block < B
theorem BxIn.lt {w : World} {x : BxD} (h : BxIn w x) : BxLt w.heap.size x :=
  ⟨h.t.row.lt mdEnc_len (by omega), fun i hi => (h.t.nest i hi).lt ikEnc_len (by omega), h.n.lt wiEnc_len (by omega), h.g.lt boEnc_len (by omega), h.i.lt ikEnc_len (by omega), h.s.lt ouEnc_len (by omega)⟩
theorem BxLt.mono {n m : Nat} {x : BxD} (h : BxLt n x) (k : n ≤ m) : BxLt m x :=
  ⟨fun a e p => Nat.lt_of_lt_of_le (h.t a e p) k, fun i hi a e p => Nat.lt_of_lt_of_le (h.l i hi a e p) k, fun a e p => Nat.lt_of_lt_of_le (h.n a e p) k, fun a e p => Nat.lt_of_lt_of_le (h.g a e p) k, fun a e p => Nat.lt_of_lt_of_le (h.i a e p) k, fun a e p => Nat.lt_of_lt_of_le (h.s a e p) k⟩
theorem BxIn.kept {w w' : World} {x : BxD} {n : Nat} (h : BxIn w x) (hin : BxLt n x) (k : ∀ g, g < n → w'.heap[g]? = w.heap[g]?) : BxIn w' x :=
  ⟨⟨h.t.row.carry (fun a e p => k _ (hin.t a e p)), fun i hi => (h.t.nest i hi).carry (fun a e p => k _ (hin.l i hi a e p)), h.t.nil0⟩, h.tm, h.ts, h.tc, h.tn, h.n.carry (fun a e p => k _ (hin.n a e p)), h.nm, h.nn, h.g.carry (fun a e p => k _ (hin.g a e p)), h.gm, h.gn, h.i.carry (fun a e p => k _ (hin.i a e p)), h.im, h.ic, h.s.carry (fun a e p => k _ (hin.s a e p)), h.sm, h.sn⟩
set_option maxHeartbeats 8000000 in
theorem bxTo (x : BxD) (w : World) (I : BxIn w x) (K : BxSm x) :
    Calls Try.prog 6 #[.agg #[.int .i64 x.id, .int .i64 x.po, .int .i64 x.rg.ep, .int .i64 x.rg.ow, .int .i64 x.rg.pa, .slice x.aT x.two.length x.cT, .slice x.aN x.net.length x.cN, .slice x.aG x.ga.length x.cG, .slice x.aL x.ln.length x.cL, .slice x.aS x.sd.length x.cS]] w fun e w' => ∃ x2 : BxD, e = .returned (.agg #[.int .i64 x2.id, .int .i64 x2.po, .int .i64 x2.rg.ep, .int .i64 x2.rg.ow, .int .i64 x2.rg.pa, .slice x2.aT x2.two.length x2.cT, .slice x2.aN x2.net.length x2.cN, .slice x2.aG x2.ga.length x2.cG, .slice x2.aL x2.ln.length x2.cL, .slice x2.aS x2.sd.length x2.cS]) ∧ x2.p = x.p ∧ BxM w.heap.size w'.heap.size w' x2 ∧ Below w.heap.size w w' := by
  have hin := I.lt
  obtain ⟨y, hy⟩ : ∃ y, y = ((w.alloc (Obj.cells #[.int .i64 x.id, .int .i64 x.po, .int .i64 x.rg.ep, .int .i64 x.rg.ow, .int .i64 x.rg.pa, .slice x.aT x.two.length x.cT, .slice x.aN x.net.length x.cN, .slice x.aG x.ga.length x.cG, .slice x.aL x.ln.length x.cL, .slice x.aS x.sd.length x.cS] 30)).alloc (Obj.cells #[.int .i64 0, .int .i64 0, .int .i64 0, .int .i64 0, .int .i64 0, .slice none 0 0, .slice none 0 0, .slice none 0 0, .slice none 0 0, .slice none 0 0] 39)).alloc (Obj.cells #[.int .i64 x.id, .int .i64 x.po, .int .i64 0, .int .i64 0, .int .i64 0, .slice none 0 0, .slice none 0 0, .slice none 0 0, .slice none 0 0, .slice none 0 0] 39) := ⟨_, rfl⟩
  have B0 : Below w.heap.size w y := by rw [hy]; exact (((Below.refl _ _).alloc (Nat.le_refl _) _).alloc (by simp) _).alloc (by simp; omega) _
  have A : BxAt y w.heap.size x := by rw [hy]; constructor <;> simp [go_sem]
  have Z : BxB y (w.heap.size + 1) BxD.zero := by rw [hy]; refine ⟨?_, fun i => ?_⟩; constructor <;> simp [go_sem, BxD.zero]; simp [go_sem]
  have Ob : BxB y (w.heap.size + 1 + 1) ⟨x.id, x.po, ⟨0, 0, 0⟩, [], none, 0, [], none, 0, [], none, 0, [], none, 0, [], none, 0⟩ := by rw [hy]; refine ⟨?_, fun i => ?_⟩; constructor <;> simp [go_sem]; simp [go_sem]
  have S0 := Ob.lt
  have I := I.below B0
  go_enter Try.func6, Try.ntmps6
  have cc := A
  obtain ⟨a0, a1, a2, a3, a4, a5, a6, a7, a8, a9⟩ := cc
  have cc := Ob
  obtain ⟨⟨o0, o1, o2, o3, o4, o5, o6, o7, o8, o9⟩, of⟩ := cc
  go_wp2_with fail
  go_at_call 15
  rw [← hy]
  clear a0 a1 a2 a3 a4 a5 a6 a7 a8 a9 o0 o1 o2 o3 o4 o5 o6 o7 o8 o9 of  hy
  refine (toRg x.rg y).mono ?_
  rintro e u0 ⟨rfl, k0⟩
  have A := A.below k0 A.lt
  have Z := Z.below k0 Z.lt
  have Ob := Ob.below k0 Ob.lt
  have I := I.below k0
  have B0 := B0.trans (k0.mono B0.size)
  have sk0 := k0.size
  clear k0
  obtain ⟨v0, hv0⟩ : ∃ v_, v_ = ((u0.setCell ⟨w.heap.size + 1 + 1, 2, none⟩ (.int .i64 x.rg.ep)).setCell ⟨w.heap.size + 1 + 1, 3, none⟩ (.int .i64 x.rg.ow)).setCell ⟨w.heap.size + 1 + 1, 4, none⟩ (.int .i64 x.rg.pa) := ⟨_, rfl⟩
  have kp : ∀ k, k ≠ w.heap.size + 1 + 1 → v0.heap[k]? = u0.heap[k]? := fun k hk => by rw [hv0, Below.heap_setCell _ _ _ _ hk, Below.heap_setCell _ _ _ _ hk, Below.heap_setCell _ _ _ _ hk]
  have sz : v0.heap.size = u0.heap.size := by rw [hv0]; simp
  have Ob2 : BxB v0 (w.heap.size + 1 + 1) ⟨x.id, x.po, x.rg, [], none, 0, [], none, 0, [], none, 0, [], none, 0, [], none, 0⟩ := by rw [hv0]; exact Ob.sR x.rg
  have BB : Below w.heap.size w v0 := by rw [hv0]; exact (((B0.setCell (p := ⟨w.heap.size + 1 + 1, _, none⟩) (by show _ ≤ w.heap.size + 1 + 1; omega) _).setCell (p := ⟨w.heap.size + 1 + 1, _, none⟩) (by show _ ≤ w.heap.size + 1 + 1; omega) _).setCell (p := ⟨w.heap.size + 1 + 1, _, none⟩) (by show _ ≤ w.heap.size + 1 + 1; omega) _)
  have A2 := A.keep (kp _ (by omega))
  have Z2 := Z.keep (kp _ (by omega))
  have I2 : BxIn v0 x := I.kept hin (fun g hg => kp g (by omega))
  have szl := Nat.le_of_eq sz.symm
  have szr := Nat.le_of_eq sz
  clear kp sz
  have cc := A
  obtain ⟨a0, a1, a2, a3, a4, a5, a6, a7, a8, a9⟩ := cc
  have cc := Ob
  obtain ⟨⟨o0, o1, o2, o3, o4, o5, o6, o7, o8, o9⟩, of⟩ := cc
  have f2 := of 2
  have f3 := of 3
  have f4 := of 4
  go_wp2_with fail
  go_at_call 16
  rw [← hv0]
  clear a0 a1 a2 a3 a4 a5 a6 a7 a8 a9 o0 o1 o2 o3 o4 o5 o6 o7 o8 o9 of f2 f3 f4 hv0
  clear A Z I Ob B0 
  have A := A2
  have Z := Z2
  have I := I2
  have Ob := Ob2
  have B0 := BB
  clear A2 Z2 I2 Ob2 BB 
  refine (mdTo x.aT x.cT x.two v0 I.t K.t K.ls).mono ?_
  rintro e u1 ⟨Ns, rfl, F⟩
  have k1 : Below v0.heap.size v0 u1 := F.bel
  have OT := F.own
  clear F
  have A := A.below k1 A.lt
  have Z := Z.below k1 Z.lt
  have Ob := Ob.below k1 Ob.lt
  have I := I.below k1
  have B0 := B0.trans (k1.mono B0.size)
  have sk1 := k1.size
  clear k1
  obtain ⟨gT, hgT⟩ : ∃ g_, g_ = v0.heap.size := ⟨_, rfl⟩
  rw [← hgT] at OT ⊢
  have qgT : w.heap.size + 1 + 1 < gT := by omega
  have rgT : gT ≤ u1.heap.size := by omega
  clear hgT
  have lOT : True := trivial
  obtain ⟨v1, hv1⟩ : ∃ v_, v_ = u1.setCell ⟨w.heap.size + 1 + 1, 5, none⟩ (.slice (some ⟨gT, 0, none⟩) x.two.length x.two.length) := ⟨_, rfl⟩
  have kp : ∀ k, k ≠ w.heap.size + 1 + 1 → v1.heap[k]? = u1.heap[k]? := fun k hk => by rw [hv1, Below.heap_setCell _ _ _ _ hk]
  have sz : v1.heap.size = u1.heap.size := by rw [hv1]; simp
  have Ob2 : BxB v1 (w.heap.size + 1 + 1) ⟨x.id, x.po, x.rg, (cpyM x.two Ns), some ⟨gT, 0, none⟩, x.two.length, [], none, 0, [], none, 0, [], none, 0, [], none, 0⟩ := by rw [hv1]; exact Ob.sT (cpyM x.two Ns) (some ⟨gT, 0, none⟩) x.two.length x.two.length (cpyM_len _ _).symm
  have BB : Below w.heap.size w v1 := by rw [hv1]; exact (B0.setCell (p := ⟨w.heap.size + 1 + 1, _, none⟩) (by show _ ≤ w.heap.size + 1 + 1; omega) _)
  have A2 := A.keep (kp _ (by omega))
  have Z2 := Z.keep (kp _ (by omega))
  have I2 : BxIn v1 x := I.kept hin (fun g hg => kp g (by omega))
  have OT2 := OT.keep (fun g h1 h2 => kp g (by omega))
  have szl := Nat.le_of_eq sz.symm
  have szr := Nat.le_of_eq sz
  clear kp sz
  have cc := A
  obtain ⟨a0, a1, a2, a3, a4, a5, a6, a7, a8, a9⟩ := cc
  have cc := Ob
  obtain ⟨⟨o0, o1, o2, o3, o4, o5, o6, o7, o8, o9⟩, of⟩ := cc
  have f5 := of 5
  go_wp2_with fail
  go_at_call 17
  rw [← hv1]
  clear a0 a1 a2 a3 a4 a5 a6 a7 a8 a9 o0 o1 o2 o3 o4 o5 o6 o7 o8 o9 of f5 hv1
  clear A Z I Ob B0 OT
  have A := A2
  have Z := Z2
  have I := I2
  have Ob := Ob2
  have OT := OT2
  have B0 := BB
  clear A2 Z2 I2 Ob2 BB OT2
  refine (wiToS x.aN x.cN x.net v1 I.n K.n).mono ?_
  rintro e u2 ⟨rfl, ON, k2⟩
  have A := A.below k2 A.lt
  have Z := Z.below k2 Z.lt
  have Ob := Ob.below k2 Ob.lt
  have I := I.below k2
  have OT := OT.below k2 (by omega)
  have B0 := B0.trans (k2.mono B0.size)
  have sk2 := k2.size
  clear k2
  obtain ⟨gN, hgN⟩ : ∃ g_, g_ = v1.heap.size := ⟨_, rfl⟩
  rw [← hgN] at ON ⊢
  have qgN : w.heap.size + 1 + 1 < gN := by omega
  have rgN : gN ≤ u2.heap.size := by omega
  have tgN : u1.heap.size ≤ gN := by omega
  clear hgN
  have lON : ∀ g, (Value.slice (some ⟨gN, 0, none⟩) x.net.length x.net.length).ownBlock = some g → w.heap.size + 1 + 1 < g ∧ g < u2.heap.size := fun g e => by have := ON.lt g e; omega
  obtain ⟨v2, hv2⟩ : ∃ v_, v_ = u2.setCell ⟨w.heap.size + 1 + 1, 6, none⟩ (.slice (some ⟨gN, 0, none⟩) x.net.length x.net.length) := ⟨_, rfl⟩
  have kp : ∀ k, k ≠ w.heap.size + 1 + 1 → v2.heap[k]? = u2.heap[k]? := fun k hk => by rw [hv2, Below.heap_setCell _ _ _ _ hk]
  have sz : v2.heap.size = u2.heap.size := by rw [hv2]; simp
  have Ob2 : BxB v2 (w.heap.size + 1 + 1) ⟨x.id, x.po, x.rg, (cpyM x.two Ns), some ⟨gT, 0, none⟩, x.two.length, x.net, some ⟨gN, 0, none⟩, x.net.length, [], none, 0, [], none, 0, [], none, 0⟩ := by rw [hv2]; exact Ob.sN x.net (some ⟨gN, 0, none⟩) x.net.length x.net.length rfl
  have BB : Below w.heap.size w v2 := by rw [hv2]; exact (B0.setCell (p := ⟨w.heap.size + 1 + 1, _, none⟩) (by show _ ≤ w.heap.size + 1 + 1; omega) _)
  have A2 := A.keep (kp _ (by omega))
  have Z2 := Z.keep (kp _ (by omega))
  have I2 : BxIn v2 x := I.kept hin (fun g hg => kp g (by omega))
  have OT2 := OT.keep (fun g h1 h2 => kp g (by omega))
  have ON2 := ON.keep (fun g e => kp g (by have := lON g e; omega))
  have szl := Nat.le_of_eq sz.symm
  have szr := Nat.le_of_eq sz
  clear kp sz
  have cc := A
  obtain ⟨a0, a1, a2, a3, a4, a5, a6, a7, a8, a9⟩ := cc
  have cc := Ob
  obtain ⟨⟨o0, o1, o2, o3, o4, o5, o6, o7, o8, o9⟩, of⟩ := cc
  have f6 := of 6
  go_wp2_with fail
  go_at_call 18
  rw [← hv2]
  clear a0 a1 a2 a3 a4 a5 a6 a7 a8 a9 o0 o1 o2 o3 o4 o5 o6 o7 o8 o9 of f6 hv2
  clear A Z I Ob B0 OT ON
  have A := A2
  have Z := Z2
  have I := I2
  have Ob := Ob2
  have OT := OT2
  have ON := ON2
  have B0 := BB
  clear A2 Z2 I2 Ob2 BB OT2 ON2
  refine (boToS x.aG x.cG x.ga v2 I.g K.g).mono ?_
  rintro e u3 ⟨rfl, OG, k3⟩
  have A := A.below k3 A.lt
  have Z := Z.below k3 Z.lt
  have Ob := Ob.below k3 Ob.lt
  have I := I.below k3
  have ON := ON.later k3
  have OT := OT.below k3 (by omega)
  have B0 := B0.trans (k3.mono B0.size)
  have sk3 := k3.size
  clear k3
  obtain ⟨gG, hgG⟩ : ∃ g_, g_ = v2.heap.size := ⟨_, rfl⟩
  rw [← hgG] at OG ⊢
  have qgG : w.heap.size + 1 + 1 < gG := by omega
  have rgG : gG ≤ u3.heap.size := by omega
  have tgG : u1.heap.size ≤ gG := by omega
  clear hgG
  have lOG : ∀ g, (Value.slice (some ⟨gG, 0, none⟩) x.ga.length x.ga.length).ownBlock = some g → w.heap.size + 1 + 1 < g ∧ g < u3.heap.size := fun g e => by have := OG.lt g e; omega
  obtain ⟨v3, hv3⟩ : ∃ v_, v_ = u3.setCell ⟨w.heap.size + 1 + 1, 7, none⟩ (.slice (some ⟨gG, 0, none⟩) x.ga.length x.ga.length) := ⟨_, rfl⟩
  have kp : ∀ k, k ≠ w.heap.size + 1 + 1 → v3.heap[k]? = u3.heap[k]? := fun k hk => by rw [hv3, Below.heap_setCell _ _ _ _ hk]
  have sz : v3.heap.size = u3.heap.size := by rw [hv3]; simp
  have Ob2 : BxB v3 (w.heap.size + 1 + 1) ⟨x.id, x.po, x.rg, (cpyM x.two Ns), some ⟨gT, 0, none⟩, x.two.length, x.net, some ⟨gN, 0, none⟩, x.net.length, x.ga, some ⟨gG, 0, none⟩, x.ga.length, [], none, 0, [], none, 0⟩ := by rw [hv3]; exact Ob.sG x.ga (some ⟨gG, 0, none⟩) x.ga.length x.ga.length rfl
  have BB : Below w.heap.size w v3 := by rw [hv3]; exact (B0.setCell (p := ⟨w.heap.size + 1 + 1, _, none⟩) (by show _ ≤ w.heap.size + 1 + 1; omega) _)
  have A2 := A.keep (kp _ (by omega))
  have Z2 := Z.keep (kp _ (by omega))
  have I2 : BxIn v3 x := I.kept hin (fun g hg => kp g (by omega))
  have OT2 := OT.keep (fun g h1 h2 => kp g (by omega))
  have ON2 := ON.keep (fun g e => kp g (by have := lON g e; omega))
  have OG2 := OG.keep (fun g e => kp g (by have := lOG g e; omega))
  have szl := Nat.le_of_eq sz.symm
  have szr := Nat.le_of_eq sz
  clear kp sz
  have cc := A
  obtain ⟨a0, a1, a2, a3, a4, a5, a6, a7, a8, a9⟩ := cc
  have cc := Ob
  obtain ⟨⟨o0, o1, o2, o3, o4, o5, o6, o7, o8, o9⟩, of⟩ := cc
  have f7 := of 7
  go_wp2_with fail
  go_at_call 19
  rw [← hv3]
  clear a0 a1 a2 a3 a4 a5 a6 a7 a8 a9 o0 o1 o2 o3 o4 o5 o6 o7 o8 o9 of f7 hv3
  clear A Z I Ob B0 OT ON OG
  have A := A2
  have Z := Z2
  have I := I2
  have Ob := Ob2
  have OT := OT2
  have ON := ON2
  have OG := OG2
  have B0 := BB
  clear A2 Z2 I2 Ob2 BB OT2 ON2 OG2
  refine (ikToS x.aL x.cL x.ln v3 I.i K.i).mono ?_
  rintro e u4 ⟨rfl, OL, k4⟩
  have A := A.below k4 A.lt
  have Z := Z.below k4 Z.lt
  have Ob := Ob.below k4 Ob.lt
  have I := I.below k4
  have ON := ON.later k4
  have OG := OG.later k4
  have OT := OT.below k4 (by omega)
  have B0 := B0.trans (k4.mono B0.size)
  have sk4 := k4.size
  clear k4
  obtain ⟨gL, hgL⟩ : ∃ g_, g_ = v3.heap.size := ⟨_, rfl⟩
  rw [← hgL] at OL ⊢
  have qgL : w.heap.size + 1 + 1 < gL := by omega
  have rgL : gL ≤ u4.heap.size := by omega
  have tgL : u1.heap.size ≤ gL := by omega
  clear hgL
  have lOL : ∀ g, (Value.slice (some ⟨gL, 0, none⟩) x.ln.length x.ln.length).ownBlock = some g → w.heap.size + 1 + 1 < g ∧ g < u4.heap.size := fun g e => by have := OL.lt g e; omega
  obtain ⟨v4, hv4⟩ : ∃ v_, v_ = u4.setCell ⟨w.heap.size + 1 + 1, 8, none⟩ (.slice (some ⟨gL, 0, none⟩) x.ln.length x.ln.length) := ⟨_, rfl⟩
  have kp : ∀ k, k ≠ w.heap.size + 1 + 1 → v4.heap[k]? = u4.heap[k]? := fun k hk => by rw [hv4, Below.heap_setCell _ _ _ _ hk]
  have sz : v4.heap.size = u4.heap.size := by rw [hv4]; simp
  have Ob2 : BxB v4 (w.heap.size + 1 + 1) ⟨x.id, x.po, x.rg, (cpyM x.two Ns), some ⟨gT, 0, none⟩, x.two.length, x.net, some ⟨gN, 0, none⟩, x.net.length, x.ga, some ⟨gG, 0, none⟩, x.ga.length, x.ln, some ⟨gL, 0, none⟩, x.ln.length, [], none, 0⟩ := by rw [hv4]; exact Ob.sL x.ln (some ⟨gL, 0, none⟩) x.ln.length x.ln.length rfl
  have BB : Below w.heap.size w v4 := by rw [hv4]; exact (B0.setCell (p := ⟨w.heap.size + 1 + 1, _, none⟩) (by show _ ≤ w.heap.size + 1 + 1; omega) _)
  have A2 := A.keep (kp _ (by omega))
  have Z2 := Z.keep (kp _ (by omega))
  have I2 : BxIn v4 x := I.kept hin (fun g hg => kp g (by omega))
  have OT2 := OT.keep (fun g h1 h2 => kp g (by omega))
  have ON2 := ON.keep (fun g e => kp g (by have := lON g e; omega))
  have OG2 := OG.keep (fun g e => kp g (by have := lOG g e; omega))
  have OL2 := OL.keep (fun g e => kp g (by have := lOL g e; omega))
  have szl := Nat.le_of_eq sz.symm
  have szr := Nat.le_of_eq sz
  clear kp sz
  have cc := A
  obtain ⟨a0, a1, a2, a3, a4, a5, a6, a7, a8, a9⟩ := cc
  have cc := Ob
  obtain ⟨⟨o0, o1, o2, o3, o4, o5, o6, o7, o8, o9⟩, of⟩ := cc
  have f8 := of 8
  go_wp2_with fail
  go_at_call 20
  rw [← hv4]
  clear a0 a1 a2 a3 a4 a5 a6 a7 a8 a9 o0 o1 o2 o3 o4 o5 o6 o7 o8 o9 of f8 hv4
  clear A Z I Ob B0 OT ON OG OL
  have A := A2
  have Z := Z2
  have I := I2
  have Ob := Ob2
  have OT := OT2
  have ON := ON2
  have OG := OG2
  have OL := OL2
  have B0 := BB
  clear A2 Z2 I2 Ob2 BB OT2 ON2 OG2 OL2
  refine (ouToS x.aS x.cS x.sd v4 I.s K.s).mono ?_
  rintro e u5 ⟨rfl, OS, k5⟩
  have A := A.below k5 A.lt
  have Z := Z.below k5 Z.lt
  have Ob := Ob.below k5 Ob.lt
  have I := I.below k5
  have ON := ON.later k5
  have OG := OG.later k5
  have OL := OL.later k5
  have OT := OT.below k5 (by omega)
  have B0 := B0.trans (k5.mono B0.size)
  have sk5 := k5.size
  clear k5
  obtain ⟨gS, hgS⟩ : ∃ g_, g_ = v4.heap.size := ⟨_, rfl⟩
  rw [← hgS] at OS ⊢
  have qgS : w.heap.size + 1 + 1 < gS := by omega
  have rgS : gS ≤ u5.heap.size := by omega
  have tgS : u1.heap.size ≤ gS := by omega
  clear hgS
  have lOS : ∀ g, (Value.slice (some ⟨gS, 0, none⟩) x.sd.length x.sd.length).ownBlock = some g → w.heap.size + 1 + 1 < g ∧ g < u5.heap.size := fun g e => by have := OS.lt g e; omega
  obtain ⟨v5, hv5⟩ : ∃ v_, v_ = u5.setCell ⟨w.heap.size + 1 + 1, 9, none⟩ (.slice (some ⟨gS, 0, none⟩) x.sd.length x.sd.length) := ⟨_, rfl⟩
  have kp : ∀ k, k ≠ w.heap.size + 1 + 1 → v5.heap[k]? = u5.heap[k]? := fun k hk => by rw [hv5, Below.heap_setCell _ _ _ _ hk]
  have sz : v5.heap.size = u5.heap.size := by rw [hv5]; simp
  have Ob2 : BxB v5 (w.heap.size + 1 + 1) ⟨x.id, x.po, x.rg, (cpyM x.two Ns), some ⟨gT, 0, none⟩, x.two.length, x.net, some ⟨gN, 0, none⟩, x.net.length, x.ga, some ⟨gG, 0, none⟩, x.ga.length, x.ln, some ⟨gL, 0, none⟩, x.ln.length, x.sd, some ⟨gS, 0, none⟩, x.sd.length⟩ := by rw [hv5]; exact Ob.sS x.sd (some ⟨gS, 0, none⟩) x.sd.length x.sd.length rfl
  have BB : Below w.heap.size w v5 := by rw [hv5]; exact (B0.setCell (p := ⟨w.heap.size + 1 + 1, _, none⟩) (by show _ ≤ w.heap.size + 1 + 1; omega) _)
  have A2 := A.keep (kp _ (by omega))
  have Z2 := Z.keep (kp _ (by omega))
  have I2 : BxIn v5 x := I.kept hin (fun g hg => kp g (by omega))
  have OT2 := OT.keep (fun g h1 h2 => kp g (by omega))
  have ON2 := ON.keep (fun g e => kp g (by have := lON g e; omega))
  have OG2 := OG.keep (fun g e => kp g (by have := lOG g e; omega))
  have OL2 := OL.keep (fun g e => kp g (by have := lOL g e; omega))
  have OS2 := OS.keep (fun g e => kp g (by have := lOS g e; omega))
  have szl := Nat.le_of_eq sz.symm
  have szr := Nat.le_of_eq sz
  clear kp sz
  obtain ⟨X2, hX2⟩ : ∃ X2 : BxD, X2 = ⟨x.id, x.po, x.rg, (cpyM x.two Ns), some ⟨gT, 0, none⟩, x.two.length, x.net, some ⟨gN, 0, none⟩, x.net.length, x.ga, some ⟨gG, 0, none⟩, x.ga.length, x.ln, some ⟨gL, 0, none⟩, x.ln.length, x.sd, some ⟨gS, 0, none⟩, x.sd.length⟩ := ⟨_, rfl⟩
  have hV2 : (.agg #[.int .i64 X2.id, .int .i64 X2.po, .int .i64 X2.rg.ep, .int .i64 X2.rg.ow, .int .i64 X2.rg.pa, .slice X2.aT X2.two.length X2.cT, .slice X2.aN X2.net.length X2.cN, .slice X2.aG X2.ga.length X2.cG, .slice X2.aL X2.ln.length X2.cL, .slice X2.aS X2.sd.length X2.cS] : Value) = .agg #[.int .i64 x.id, .int .i64 x.po, .int .i64 x.rg.ep, .int .i64 x.rg.ow, .int .i64 x.rg.pa, .slice (some ⟨gT, 0, none⟩) x.two.length x.two.length, .slice (some ⟨gN, 0, none⟩) x.net.length x.net.length, .slice (some ⟨gG, 0, none⟩) x.ga.length x.ga.length, .slice (some ⟨gL, 0, none⟩) x.ln.length x.ln.length, .slice (some ⟨gS, 0, none⟩) x.sd.length x.sd.length] := by rw [hX2]; show Value.agg _ = _; rw [cpyM_len]
  have hP2 : X2.p = x.p := by rw [hX2]; unfold BxD.p; dsimp only; rw [cpyM_d]
  have cc := Z2
  obtain ⟨⟨z0, z1, z2, z3, z4, z5, z6, z7, z8, z9⟩, zf⟩ := cc
  have e0 := zf 0
  have e1 := zf 1
  have e2 := zf 2
  have e3 := zf 3
  have e4 := zf 4
  have e5 := zf 5
  have e6 := zf 6
  have e7 := zf 7
  have e8 := zf 8
  have e9 := zf 9
  have cc := Ob2
  obtain ⟨⟨o0, o1, o2, o3, o4, o5, o6, o7, o8, o9⟩, of⟩ := cc
  rw [← hX2] at Ob2
  have cc := Ob
  obtain ⟨⟨p0, p1, p2, p3, p4, p5, p6, p7, p8, p9⟩, pf⟩ := cc
  have f9 := pf 9
  dsimp only at o0 o1 o2 o3 o4 o5 o6 o7 o8 o9
  rw [cpyM_len] at o5
  go_upto_region 10 with fail
  rw [← hv5]
  clear hv5 p0 p1 p2 p3 p4 p5 p6 p7 p8 p9 pf f9
  obtain ⟨v6, hv6⟩ : ∃ v_, v_ = ((((((((((v5.setCell ⟨w.heap.size + 1, 0, none⟩ (.int .i64 x.id)).setCell ⟨w.heap.size + 1, 1, none⟩ (.int .i64 x.po)).setCell ⟨w.heap.size + 1, 2, none⟩ (.int .i64 x.rg.ep)).setCell ⟨w.heap.size + 1, 3, none⟩ (.int .i64 x.rg.ow)).setCell ⟨w.heap.size + 1, 4, none⟩ (.int .i64 x.rg.pa)).setCell ⟨w.heap.size + 1, 5, none⟩ (.slice (some ⟨gT, 0, none⟩) x.two.length x.two.length)).setCell ⟨w.heap.size + 1, 6, none⟩ (.slice (some ⟨gN, 0, none⟩) x.net.length x.net.length)).setCell ⟨w.heap.size + 1, 7, none⟩ (.slice (some ⟨gG, 0, none⟩) x.ga.length x.ga.length)).setCell ⟨w.heap.size + 1, 8, none⟩ (.slice (some ⟨gL, 0, none⟩) x.ln.length x.ln.length)).setCell ⟨w.heap.size + 1, 9, none⟩ (.slice (some ⟨gS, 0, none⟩) x.sd.length x.sd.length)) := ⟨_, rfl⟩
  have ZZ := Z2.put X2
  have kp : ∀ k, k ≠ w.heap.size + 1 → v6.heap[k]? = v5.heap[k]? := fun k hk => by rw [hv6, Below.heap_setCell _ _ _ _ hk, Below.heap_setCell _ _ _ _ hk, Below.heap_setCell _ _ _ _ hk, Below.heap_setCell _ _ _ _ hk, Below.heap_setCell _ _ _ _ hk, Below.heap_setCell _ _ _ _ hk, Below.heap_setCell _ _ _ _ hk, Below.heap_setCell _ _ _ _ hk, Below.heap_setCell _ _ _ _ hk, Below.heap_setCell _ _ _ _ hk]
  have B6 : Below w.heap.size w v6 := by rw [hv6]; exact ((((((((((BB.setCell (p := ⟨w.heap.size + 1, 0, none⟩) (by show _ ≤ w.heap.size + 1; omega) _).setCell (p := ⟨w.heap.size + 1, 1, none⟩) (by show _ ≤ w.heap.size + 1; omega) _).setCell (p := ⟨w.heap.size + 1, 2, none⟩) (by show _ ≤ w.heap.size + 1; omega) _).setCell (p := ⟨w.heap.size + 1, 3, none⟩) (by show _ ≤ w.heap.size + 1; omega) _).setCell (p := ⟨w.heap.size + 1, 4, none⟩) (by show _ ≤ w.heap.size + 1; omega) _).setCell (p := ⟨w.heap.size + 1, 5, none⟩) (by show _ ≤ w.heap.size + 1; omega) _).setCell (p := ⟨w.heap.size + 1, 6, none⟩) (by show _ ≤ w.heap.size + 1; omega) _).setCell (p := ⟨w.heap.size + 1, 7, none⟩) (by show _ ≤ w.heap.size + 1; omega) _).setCell (p := ⟨w.heap.size + 1, 8, none⟩) (by show _ ≤ w.heap.size + 1; omega) _).setCell (p := ⟨w.heap.size + 1, 9, none⟩) (by show _ ≤ w.heap.size + 1; omega) _)
  have s6 : v6.heap.size = v5.heap.size := by rw [hv6]; simp
  have OT2 := OT2.keep (w' := v6) (fun g h1 h2 => kp g (by omega))
  have ON2 := ON2.keep (w' := v6) (fun g e => kp g (by have := lON g e; omega))
  have OG2 := OG2.keep (w' := v6) (fun g e => kp g (by have := lOG g e; omega))
  have OL2 := OL2.keep (w' := v6) (fun g e => kp g (by have := lOL g e; omega))
  have OS2 := OS2.keep (w' := v6) (fun g e => kp g (by have := lOS g e; omega))
  have hM : BxM w.heap.size v6.heap.size v6 X2 := by
    rw [hX2]
    refine ⟨?_, ON2.base (by omega), OG2.base (by omega), OL2.base (by omega), OS2.base (by omega), fun b e => (by have := lON b e; omega), fun b e => (by have := lOG b e; omega), fun b e => (by have := lOL b e; omega), fun b e => (by have := lOS b e; omega), fun j hj b e e2 => ?_⟩
    · show MOwn _ _ _ (.slice _ (cpyM x.two Ns).length _) _
      rw [cpyM_len]
      exact OT2.wide (by omega) (by omega)
    · have h1 := OT2.nhi j hj b e
      have h2 := (OL2.lt b e2).1
      omega
  obtain ⟨⟨t0, t1, t2, t3, t4, t5, t6, t7, t8, t9⟩, tf⟩ : BxB v6 (w.heap.size + 1) X2 := by rw [hv6]; have := Z2.put X2; rw [hX2] at this; dsimp only at this; rw [cpyM_len] at this; rw [hX2]; exact this
  rw [hX2] at t0 t1 t2 t3 t4 t5 t6 t7 t8 t9
  dsimp only at t0 t1 t2 t3 t4 t5 t6 t7 t8 t9
  rw [cpyM_len] at t5
  clear tf
  go_wp2
  refine bodyPost_ret (v := .agg #[.int .i64 x.id, .int .i64 x.po, .int .i64 x.rg.ep, .int .i64 x.rg.ow, .int .i64 x.rg.pa, .slice (some ⟨gT, 0, none⟩) x.two.length x.two.length, .slice (some ⟨gN, 0, none⟩) x.net.length x.net.length, .slice (some ⟨gG, 0, none⟩) x.ga.length x.ga.length, .slice (some ⟨gL, 0, none⟩) x.ln.length x.ln.length, .slice (some ⟨gS, 0, none⟩) x.sd.length x.sd.length]) (by simp [results, Try.results6, go_sem, *]) rfl ⟨X2, by rw [hV2], hP2, by rw [← hv6]; exact hM, by rw [← hv6]; exact B6⟩

end Go.Proofs.Ytnpiljegdiconab
namespace Go.Proofs.Ytnpiljegdiconab
open Go.ChangeShapes Go.WideShapes Go.ChangeAt Go.RowKit
open Go.ChangeMaps (open_string shut_string)
set_option linter.unusedVariables false
set_option maxRecDepth 100000

set_option maxHeartbeats 1000000 in
theorem mdEq (ad ad' : Option Addr) (cap cap' : Nat) (Bs Bs' : List MiD) (w : World) (hv : MV w ad Bs) (hv' : MV w ad' Bs') (hd : Bs'.map MiD.m = Bs.map MiD.m) (hl : Bs.length ≤ 1048576) (hls : ∀ i, i < Bs.length → (Bs.getD i MiD.nil).m.lg.length ≤ 1048576) :
    Calls Try.prog 24 #[.slice ad Bs.length cap, .slice ad' Bs'.length cap'] w fun e w' => e = .returned (.bool true) ∧ Below w.heap.size w w' := by
  have hlen : Bs'.length = Bs.length := by have := congrArg List.length hd; simpa using this
  have hsame : ∀ i, (Bs'.getD i MiD.nil).m = (Bs.getD i MiD.nil).m := fun i => by
    have := congrArg (fun D => D.getD i Mi.nil) hd
    simpa only [md_get] using this
  rw [hlen]
  go_enter Try.func24, Try.ntmps24
  go_wp2
  go_loopw [5] (fun i wr => ∃ k : Nat, k ≤ Bs.length ∧ i = .int .i64 k ∧ Below w.heap.size w wr) (fun i _ => Bs.length - (intOf i).toNat)
  case atStart => exact ⟨0, Nat.zero_le _, rfl, Below.refl _ _⟩
  case round =>
    obtain ⟨k, hk, rfl, hb⟩ := hrel
    by_cases hlt : k < Bs.length
    · obtain ⟨b, off, rfl⟩ := hv.ad_ (by omega)
      obtain ⟨b', off', rfl⟩ := hv'.ad_ (by omega)
      have hlk := hls k hlt
      have hn : ∀ Y, Below w.heap.size w Y → FView ikEnc Y (Bs.getD k MiD.nil).ad (Bs.getD k MiD.nil).m.lg := fun Y hY => (hv.below hY (Nat.le_refl _)).nest k hlt
      have hn' : ∀ Y, Below w.heap.size w Y → FView ikEnc Y (Bs'.getD k MiD.nil).ad (Bs'.getD k MiD.nil).m.lg := fun Y hY => (hv'.below hY (Nat.le_refl _)).nest k (by omega)
      have hc : ∀ Y, Below w.heap.size w Y → MdAtO Y b (off + k * 7) (Bs.getD k MiD.nil) := fun Y hY => (hv.below hY (Nat.le_refl _)).at_ hlt
      have hc' : ∀ Y, Below w.heap.size w Y → MdAtO Y b' (off' + k * 7) (Bs'.getD k MiD.nil) := fun Y hY => (hv'.below hY (Nat.le_refl _)).at_ (by omega)
      have e1 := hsame k
      obtain ⟨⟨m1, a1, c1⟩, hh⟩ : ∃ m, Bs.getD k MiD.nil = m := ⟨_, rfl⟩
      obtain ⟨⟨m2, a2, c2⟩, hh'⟩ : ∃ m, Bs'.getD k MiD.nil = m := ⟨_, rfl⟩
      rw [hh] at e1 hlk
      rw [hh'] at e1
      simp only [hh] at hn hc
      simp only [hh'] at hn' hc'
      dsimp only at e1 hlk hn hn'
      subst e1
      clear hh hh' hv hv' hsame hls hd hlen
      go_wp2_with fail
      refine wp_region_held (S := fun Y => Below w.heap.size w Y) (by kernel_rfl) ?_
      change wpAnyH _ _ _ _ _ _ _ _ (World.drew _)
      have hb0 : Below w.heap.size w wr.drew := hb.drew
      refine takeW 0 17 (.slice (some ⟨b, off, none⟩) Bs.length cap) rfl rfl (by kernel_rfl) (by kernel_rfl) (by kernel_rfl) (fun _ _ _ h => h) (by kernel_rfl) (by (intro w hSw; go_simp)) (by assumption) ?_
      simp only [List.set_cons_zero, List.set_cons_succ]
      refine takeW 1 18 (.int .i64 k) rfl rfl (by kernel_rfl) (by kernel_rfl) (by kernel_rfl) (fun _ _ _ h => h) (by kernel_rfl) (by (intro w hSw; go_simp)) (by assumption) ?_
      simp only [List.set_cons_zero, List.set_cons_succ]
      refine takeW 2 19 (.pointer (some ⟨b, off + k * 7, none⟩)) rfl rfl (by kernel_rfl) (by kernel_rfl) (by kernel_rfl) (fun _ _ _ h => h) (by kernel_rfl) (by (intro Y hSw; go_simp; try omega)) (by assumption) ?_
      simp only [List.set_cons_zero, List.set_cons_succ]
      refine takeW 3 20 (.agg #[.bool m2.up, .int .i64 m2.li, .int .i64 m2.ep, .slice a1 m2.lg.length c1, .int .i64 m2.sd, .int .i64 m2.ac, .int .i64 m2.al]) rfl rfl (by kernel_rfl) (by kernel_rfl) (by kernel_rfl) (fun _ _ _ h => h) (by kernel_rfl) (by (intro Y hSw; obtain ⟨X0, X1, X2, X3, X4, X5, X6⟩ := hc Y hSw; go_simp)) (by assumption) ?_
      simp only [List.set_cons_zero, List.set_cons_succ]
      refine takeW 4 21 (.slice (some ⟨b', off', none⟩) Bs.length cap') rfl rfl (by kernel_rfl) (by kernel_rfl) (by kernel_rfl) (fun _ _ _ h => h) (by kernel_rfl) (by (intro w hSw; go_simp)) (by assumption) ?_
      simp only [List.set_cons_zero, List.set_cons_succ]
      refine takeW 5 22 (.int .i64 k) rfl rfl (by kernel_rfl) (by kernel_rfl) (by kernel_rfl) (fun _ _ _ h => h) (by kernel_rfl) (by (intro w hSw; go_simp)) (by assumption) ?_
      simp only [List.set_cons_zero, List.set_cons_succ]
      refine takeW 6 23 (.pointer (some ⟨b', off' + k * 7, none⟩)) rfl rfl (by kernel_rfl) (by kernel_rfl) (by kernel_rfl) (fun _ _ _ h => h) (by kernel_rfl) (by (intro Y hSw; go_simp; try omega)) (by assumption) ?_
      simp only [List.set_cons_zero, List.set_cons_succ]
      refine takeW 7 24 (.agg #[.bool m2.up, .int .i64 m2.li, .int .i64 m2.ep, .slice a2 m2.lg.length c2, .int .i64 m2.sd, .int .i64 m2.ac, .int .i64 m2.al]) rfl rfl (by kernel_rfl) (by kernel_rfl) (by kernel_rfl) (fun _ _ _ h => h) (by kernel_rfl) (by (intro Y hSw; obtain ⟨X0, X1, X2, X3, X4, X5, X6⟩ := hc' Y hSw; go_simp)) (by assumption) ?_
      simp only [List.set_cons_zero, List.set_cons_succ]
      refine wpAnyH_all (rs := [8]) (by kernel_rfl) (by simp) ?_
      intro i hi; obtain rfl : i = 8 := by simpa using hi
      refine wpOp_step rfl (fun K hK => ?_)
      rw [if_pos (by kernel_rfl)]
      go_simp
      go_at_call 41
      refine (miEq m2 a1 a2 c1 c2 _ (hn _ hb0) (hn' _ hb0) hlk).mono ?_
      rintro e y1 ⟨rfl, j1⟩
      have hb1 : Below w.heap.size w y1 := hb0.trans (j1.mono hb0.size)
      refine hK _ _ ⟨hb1, ?_⟩
      clear hK K hi
      refine takeW 9 26 (.bool false) rfl rfl (by kernel_rfl) (by kernel_rfl) (by kernel_rfl) (fun _ _ _ h => h) (by kernel_rfl) (by (intro w hSw; go_simp)) (by assumption) ?_
      simp only [List.set_cons_zero, List.set_cons_succ]
      refine wpAnyH_done (by kernel_rfl) ?_ _
      go_wp2
      go_roundw
      case rel => exact ⟨k + 1, by omega, by go_num, hb1⟩
      case measure => simp [intOf]; omega
    · obtain rfl : k = Bs.length := by omega
      go_wp2
      go_ret
      exact ⟨rfl, hb⟩

end Go.Proofs.Ytnpiljegdiconab
namespace Go.Proofs.Ytnpiljegdiconab
open Go.ChangeShapes Go.WideShapes Go.ChangeAt Go.RowKit
open Go.ChangeMaps (open_string shut_string)
set_option linter.unusedVariables false
set_option maxRecDepth 100000

set_option maxHeartbeats 2000000 in
theorem wiEqS (ad ad' : Option Addr) (cap cap' : Nat) (L : List Wi) (w : World) (hv : FView wiEnc w ad L) (hv' : FView wiEnc w ad' L) (hl : L.length ≤ 1048576) :
    Calls Try.prog 25 #[.slice ad L.length cap, .slice ad' L.length cap'] w fun e w' => e = .returned (.bool true) ∧ Below w.heap.size w w' := by
  have hB := hv.lt wiEnc_len (by omega)
  have hB' := hv'.lt wiEnc_len (by omega)
  go_enter Try.func25, Try.ntmps25
  go_wp2
  go_loopw [5] (fun i wr => ∃ k : Nat, k ≤ L.length ∧ i = .int .i64 k ∧ Below w.heap.size w wr) (fun i _ => L.length - (intOf i).toNat)
  case atStart => exact ⟨0, Nat.zero_le _, rfl, Below.refl _ _⟩
  case round =>
    obtain ⟨k, hk, rfl, hb⟩ := hrel
    by_cases hlt : k < L.length
    · obtain ⟨b, off, rfl, _⟩ := hv (by omega)
      obtain ⟨b', off', rfl, _⟩ := hv' (by omega)
      obtain ⟨h, hh⟩ : ∃ h, L.getD k Wi.nil = h := ⟨_, rfl⟩
      have hc : ∀ Y, Below w.heap.size w Y → WiAtO Y b (off + k * 12) h := fun Y hY => by rw [← hh]; exact wiAtO_of ((hv.below hY hB).at_ wiEnc_len Wi.nil hlt)
      have hc' : ∀ Y, Below w.heap.size w Y → WiAtO Y b' (off' + k * 12) h := fun Y hY => by rw [← hh]; exact wiAtO_of ((hv'.below hY hB').at_ wiEnc_len Wi.nil hlt)
      clear hh hv hv' hB hB'
      go_wp2_with fail
      refine wp_region_held (S := fun Y => Below w.heap.size w Y) (by kernel_rfl) ?_
      change wpAnyH _ _ _ _ _ _ _ _ (World.drew _)
      have hb0 : Below w.heap.size w wr.drew := hb.drew
      refine takeW 0 17 (.slice (some ⟨b, off, none⟩) L.length cap) rfl rfl (by kernel_rfl) (by kernel_rfl) (by kernel_rfl) (fun _ _ _ h => h) (by kernel_rfl) (by (intro w hSw; go_simp)) (by assumption) ?_
      simp only [List.set_cons_zero, List.set_cons_succ]
      refine takeW 1 18 (.int .i64 k) rfl rfl (by kernel_rfl) (by kernel_rfl) (by kernel_rfl) (fun _ _ _ h => h) (by kernel_rfl) (by (intro w hSw; go_simp)) (by assumption) ?_
      simp only [List.set_cons_zero, List.set_cons_succ]
      refine takeW 2 19 (.pointer (some ⟨b, off + k * 12, none⟩)) rfl rfl (by kernel_rfl) (by kernel_rfl) (by kernel_rfl) (fun _ _ _ h => h) (by kernel_rfl) (by (intro Y hSw; go_simp; try omega)) (by assumption) ?_
      simp only [List.set_cons_zero, List.set_cons_succ]
      refine takeW 3 20 (.agg #[.int .i64 h.fr, .bool h.ak, .int .i64 h.li, .int .i64 h.n, .int .i64 h.x.k, .int .i64 h.x.q, .int .i64 h.x.r, .int .i64 h.x.c, .int .i64 h.x.b, .int .i64 h.x.p, .int .i64 h.x.h, .bool h.x.up]) rfl rfl (by kernel_rfl) (by kernel_rfl) (by kernel_rfl) (fun _ _ _ h => h) (by kernel_rfl) (by (intro Y hSw; obtain ⟨X0, X1, X2, X3, X4, X5, X6, X7, X8, X9, X10, X11⟩ := hc Y hSw; go_simp)) (by assumption) ?_
      simp only [List.set_cons_zero, List.set_cons_succ]
      refine takeW 4 21 (.slice (some ⟨b', off', none⟩) L.length cap') rfl rfl (by kernel_rfl) (by kernel_rfl) (by kernel_rfl) (fun _ _ _ h => h) (by kernel_rfl) (by (intro w hSw; go_simp)) (by assumption) ?_
      simp only [List.set_cons_zero, List.set_cons_succ]
      refine takeW 5 22 (.int .i64 k) rfl rfl (by kernel_rfl) (by kernel_rfl) (by kernel_rfl) (fun _ _ _ h => h) (by kernel_rfl) (by (intro w hSw; go_simp)) (by assumption) ?_
      simp only [List.set_cons_zero, List.set_cons_succ]
      refine takeW 6 23 (.pointer (some ⟨b', off' + k * 12, none⟩)) rfl rfl (by kernel_rfl) (by kernel_rfl) (by kernel_rfl) (fun _ _ _ h => h) (by kernel_rfl) (by (intro Y hSw; go_simp; try omega)) (by assumption) ?_
      simp only [List.set_cons_zero, List.set_cons_succ]
      refine takeW 7 24 (.agg #[.int .i64 h.fr, .bool h.ak, .int .i64 h.li, .int .i64 h.n, .int .i64 h.x.k, .int .i64 h.x.q, .int .i64 h.x.r, .int .i64 h.x.c, .int .i64 h.x.b, .int .i64 h.x.p, .int .i64 h.x.h, .bool h.x.up]) rfl rfl (by kernel_rfl) (by kernel_rfl) (by kernel_rfl) (fun _ _ _ h => h) (by kernel_rfl) (by (intro Y hSw; obtain ⟨X0, X1, X2, X3, X4, X5, X6, X7, X8, X9, X10, X11⟩ := hc' Y hSw; go_simp)) (by assumption) ?_
      simp only [List.set_cons_zero, List.set_cons_succ]
      refine wpAnyH_all (rs := [8]) (by kernel_rfl) (by simp) ?_
      intro i hi; obtain rfl : i = 8 := by simpa using hi
      refine wpOp_step rfl (fun Kz hKz => ?_)
      rw [if_pos (by kernel_rfl)]
      go_simp
      go_at_call 42
      refine (eqWiI h _).mono ?_
      rintro e y1 ⟨rfl, j1⟩
      have hb1 : Below w.heap.size w y1 := hb0.trans (j1.mono hb0.size)
      refine hKz _ _ ⟨hb1, ?_⟩
      clear hKz Kz hi
      refine takeW 9 26 (.bool false) rfl rfl (by kernel_rfl) (by kernel_rfl) (by kernel_rfl) (fun _ _ _ h => h) (by kernel_rfl) (by (intro w hSw; go_simp)) (by assumption) ?_
      simp only [List.set_cons_zero, List.set_cons_succ]
      refine wpAnyH_done (by kernel_rfl) ?_ _
      go_wp2
      go_roundw
      case rel => exact ⟨k + 1, by omega, by go_num, hb1⟩
      case measure => simp [intOf]; omega
    · obtain rfl : k = L.length := by omega
      go_wp2
      go_ret
      exact ⟨rfl, hb⟩

end Go.Proofs.Ytnpiljegdiconab
namespace Go.Proofs.Ytnpiljegdiconab
open Go.ChangeShapes Go.WideShapes Go.ChangeAt Go.RowKit
open Go.ChangeMaps (open_string shut_string)
set_option linter.unusedVariables false
set_option maxRecDepth 100000

/-- A list of flags that was marked from 1 on. -/
structure MRowB (w : World) (ad : Option Addr) (n : Nat) : Prop where
  v : ViewB w ad n (fun i => mkB (1 + (i : Int)))
  lt : ∀ a, ad = some a → 0 < n → a.block < w.heap.size
theorem MRowB.later {w w' : World} {ad : Option Addr} {n : Nat} (h : MRowB w ad n) (k : Below w.heap.size w w') : MRowB w' ad n :=
  ⟨h.v.carry (fun a e p => k.block _ (h.lt a e p)), fun a e p => Nat.lt_of_lt_of_le (h.lt a e p) k.size⟩
theorem FOwn.roomB {base : Nat} {w : World} {ad : Option Addr} {n cap : Nat} {L : List Bool} (h : FOwn boEnc 1 4 base w (.slice ad n cap) L) : Room w ad L.length := by
  intro hp
  have hn := h.view.1
  subst hn
  obtain ⟨b, off, rfl, hc⟩ := h.view.2.toB hp
  have h0 : off = 0 := by
    rcases h.2 with ⟨q, e⟩ | ⟨g, c, cur, q, _⟩
    · cases q
    · simp only [Value.slice.injEq, Option.some.injEq, Addr.mk.injEq] at q
      exact q.1.2.1
  subst h0
  exact ⟨b, 0, rfl, fun i hi => ⟨⟨_, hc i hi⟩, by rw [Nat.zero_add]; exact h.frozen i⟩⟩
theorem boEq (ad ad' : Option Addr) (cap cap' : Nat) (L : List Bool) (w : World) (h : FView boEnc w ad L) (h' : FView boEnc w ad' L) (hl : L.length ≤ 1048576) :
    Calls Try.prog 26 #[.slice ad L.length cap, .slice ad' L.length cap'] w fun e w' => e = .returned (.bool true) ∧ Below w.heap.size w w' := by
  refine (eqBools ad ad' L.length cap cap' _ w h.toB h'.toB hl).mono ?_
  rintro e w' ⟨rfl, n, rfl⟩
  exact ⟨rfl, ⟨rfl, rfl, rfl, Nat.le_refl _, fun _ _ => rfl⟩⟩


end Go.Proofs.Ytnpiljegdiconab
namespace Go.Proofs.Ytnpiljegdiconab
open Go.ChangeShapes Go.WideShapes Go.ChangeAt Go.RowKit
open Go.ChangeMaps (open_string shut_string)
set_option linter.unusedVariables false
set_option maxRecDepth 100000

theorem OuAtO.below {w w' : World} {q o n : Nat} {x : Ou} (h : OuAtO w q o x) (k : Below n w w') (hq : q < n) : OuAtO w' q o x :=
  ⟨(World.cell?_of_block (a := ⟨q, o, none⟩) (k.block q hq)).trans h.c0, (World.cell?_of_block (a := ⟨q, o + 1, none⟩) (k.block q hq)).trans h.c1, (World.cell?_of_block (a := ⟨q, o + 2, none⟩) (k.block q hq)).trans h.c2, (World.cell?_of_block (a := ⟨q, o + 3, none⟩) (k.block q hq)).trans h.c3, (World.cell?_of_block (a := ⟨q, o + 4, none⟩) (k.block q hq)).trans h.c4, (World.cell?_of_block (a := ⟨q, o + 5, none⟩) (k.block q hq)).trans h.c5, (World.cell?_of_block (a := ⟨q, o + 6, none⟩) (k.block q hq)).trans h.c6, (World.cell?_of_block (a := ⟨q, o + 7, none⟩) (k.block q hq)).trans h.c7⟩
set_option maxHeartbeats 2000000 in
theorem eqO (x : Ou) (w : World) :
    Calls Try.prog 44 #[.agg #[.int .i64 x.k, .int .i64 x.pt, .int .i64 x.r, .int .i64 x.c, .int .i64 x.b, .int .i64 x.p, .int .i64 x.h, .bool x.on], .agg #[.int .i64 x.k, .int .i64 x.pt, .int .i64 x.r, .int .i64 x.c, .int .i64 x.b, .int .i64 x.p, .int .i64 x.h, .bool x.on]] w fun e w' => e = .returned (.bool true) ∧ Below w.heap.size w w' := by
  obtain ⟨w0, hw0⟩ : ∃ w0, w0 = (w.alloc (Obj.cells #[.int .i64 x.k, .int .i64 x.pt, .int .i64 x.r, .int .i64 x.c, .int .i64 x.b, .int .i64 x.p, .int .i64 x.h, .bool x.on] 89)).alloc (Obj.cells #[.int .i64 x.k, .int .i64 x.pt, .int .i64 x.r, .int .i64 x.c, .int .i64 x.b, .int .i64 x.p, .int .i64 x.h, .bool x.on] 89) := ⟨_, rfl⟩
  have b0 : Below w.heap.size w w0 := by rw [hw0]; exact ((Below.refl _ _).alloc (Nat.le_refl _) _).alloc (by simp) _
  have P0 : OuAtO w0 w.heap.size 0 x := by rw [hw0]; constructor <;> simp [go_sem]
  have R0 : OuAtO w0 (w.heap.size + 1) 0 x := by rw [hw0]; constructor <;> simp [go_sem]
  have hle : w.heap.size + 1 < w0.heap.size := World.block_lt_of_cell? w0 _ R0.c0
  go_enter Try.func44, Try.ntmps44
  go_wp2_with fail
  go_at_call 58
  rw [← hw0]
  clear hw0
  refine (eqVs x.r x.c x.b x.p w0).mono ?_
  rintro e w1 ⟨rfl, k1⟩
  have b1 := b0.trans (k1.mono b0.size)
  obtain ⟨p0, p1, p2, p3, p4, p5, p6, p7⟩ := P0.below k1 (by omega)
  obtain ⟨r0, r1, r2, r3, r4, r5, r6, r7⟩ := R0.below k1 (by omega)
  simp only [Nat.zero_add] at p0 r0 p1 r1 p2 r2 p3 r3 p4 r4 p5 r5 p6 r6 p7 r7
  clear P0 R0 k1 b0
  go_wp2
  go_ret
  exact ⟨rfl, b1⟩
set_option maxHeartbeats 2000000 in
theorem ouEqS (ad ad' : Option Addr) (cap cap' : Nat) (L : List Ou) (w : World) (hv : FView ouEnc w ad L) (hv' : FView ouEnc w ad' L) (hl : L.length ≤ 1048576) :
    Calls Try.prog 28 #[.slice ad L.length cap, .slice ad' L.length cap'] w fun e w' => e = .returned (.bool true) ∧ Below w.heap.size w w' := by
  have hB := hv.lt ouEnc_len (by omega)
  have hB' := hv'.lt ouEnc_len (by omega)
  go_enter Try.func28, Try.ntmps28
  go_wp2
  go_loopw [5] (fun i wr => ∃ k : Nat, k ≤ L.length ∧ i = .int .i64 k ∧ Below w.heap.size w wr) (fun i _ => L.length - (intOf i).toNat)
  case atStart => exact ⟨0, Nat.zero_le _, rfl, Below.refl _ _⟩
  case round =>
    obtain ⟨k, hk, rfl, hb⟩ := hrel
    by_cases hlt : k < L.length
    · obtain ⟨b, off, rfl, _⟩ := hv (by omega)
      obtain ⟨b', off', rfl, _⟩ := hv' (by omega)
      obtain ⟨h, hh⟩ : ∃ h, L.getD k Ou.nil = h := ⟨_, rfl⟩
      have hc : ∀ Y, Below w.heap.size w Y → OuAtO Y b (off + k * 8) h := fun Y hY => by rw [← hh]; exact ouAtO_of ((hv.below hY hB).at_ ouEnc_len Ou.nil hlt)
      have hc' : ∀ Y, Below w.heap.size w Y → OuAtO Y b' (off' + k * 8) h := fun Y hY => by rw [← hh]; exact ouAtO_of ((hv'.below hY hB').at_ ouEnc_len Ou.nil hlt)
      clear hh hv hv' hB hB'
      go_wp2_with fail
      refine wp_region_held (S := fun Y => Below w.heap.size w Y) (by kernel_rfl) ?_
      change wpAnyH _ _ _ _ _ _ _ _ (World.drew _)
      have hb0 : Below w.heap.size w wr.drew := hb.drew
      refine takeW 0 17 (.slice (some ⟨b, off, none⟩) L.length cap) rfl rfl (by kernel_rfl) (by kernel_rfl) (by kernel_rfl) (fun _ _ _ h => h) (by kernel_rfl) (by (intro w hSw; go_simp)) (by assumption) ?_
      simp only [List.set_cons_zero, List.set_cons_succ]
      refine takeW 1 18 (.int .i64 k) rfl rfl (by kernel_rfl) (by kernel_rfl) (by kernel_rfl) (fun _ _ _ h => h) (by kernel_rfl) (by (intro w hSw; go_simp)) (by assumption) ?_
      simp only [List.set_cons_zero, List.set_cons_succ]
      refine takeW 2 19 (.pointer (some ⟨b, off + k * 8, none⟩)) rfl rfl (by kernel_rfl) (by kernel_rfl) (by kernel_rfl) (fun _ _ _ h => h) (by kernel_rfl) (by (intro Y hSw; go_simp; try omega)) (by assumption) ?_
      simp only [List.set_cons_zero, List.set_cons_succ]
      refine takeW 3 20 (.agg #[.int .i64 h.k, .int .i64 h.pt, .int .i64 h.r, .int .i64 h.c, .int .i64 h.b, .int .i64 h.p, .int .i64 h.h, .bool h.on]) rfl rfl (by kernel_rfl) (by kernel_rfl) (by kernel_rfl) (fun _ _ _ h => h) (by kernel_rfl) (by (intro Y hSw; obtain ⟨X0, X1, X2, X3, X4, X5, X6, X7⟩ := hc Y hSw; go_simp)) (by assumption) ?_
      simp only [List.set_cons_zero, List.set_cons_succ]
      refine takeW 4 21 (.slice (some ⟨b', off', none⟩) L.length cap') rfl rfl (by kernel_rfl) (by kernel_rfl) (by kernel_rfl) (fun _ _ _ h => h) (by kernel_rfl) (by (intro w hSw; go_simp)) (by assumption) ?_
      simp only [List.set_cons_zero, List.set_cons_succ]
      refine takeW 5 22 (.int .i64 k) rfl rfl (by kernel_rfl) (by kernel_rfl) (by kernel_rfl) (fun _ _ _ h => h) (by kernel_rfl) (by (intro w hSw; go_simp)) (by assumption) ?_
      simp only [List.set_cons_zero, List.set_cons_succ]
      refine takeW 6 23 (.pointer (some ⟨b', off' + k * 8, none⟩)) rfl rfl (by kernel_rfl) (by kernel_rfl) (by kernel_rfl) (fun _ _ _ h => h) (by kernel_rfl) (by (intro Y hSw; go_simp; try omega)) (by assumption) ?_
      simp only [List.set_cons_zero, List.set_cons_succ]
      refine takeW 7 24 (.agg #[.int .i64 h.k, .int .i64 h.pt, .int .i64 h.r, .int .i64 h.c, .int .i64 h.b, .int .i64 h.p, .int .i64 h.h, .bool h.on]) rfl rfl (by kernel_rfl) (by kernel_rfl) (by kernel_rfl) (fun _ _ _ h => h) (by kernel_rfl) (by (intro Y hSw; obtain ⟨X0, X1, X2, X3, X4, X5, X6, X7⟩ := hc' Y hSw; go_simp)) (by assumption) ?_
      simp only [List.set_cons_zero, List.set_cons_succ]
      refine wpAnyH_all (rs := [8]) (by kernel_rfl) (by simp) ?_
      intro i hi; obtain rfl : i = 8 := by simpa using hi
      refine wpOp_step rfl (fun K hK => ?_)
      rw [if_pos (by kernel_rfl)]
      go_simp
      go_at_call 44
      refine (eqO h _).mono ?_
      rintro e y1 ⟨rfl, j1⟩
      have hb1 : Below w.heap.size w y1 := hb0.trans (j1.mono hb0.size)
      refine hK _ _ ⟨hb1, ?_⟩
      clear hK K hi
      refine takeW 9 26 (.bool false) rfl rfl (by kernel_rfl) (by kernel_rfl) (by kernel_rfl) (fun _ _ _ h => h) (by kernel_rfl) (by (intro w hSw; go_simp)) (by assumption) ?_
      simp only [List.set_cons_zero, List.set_cons_succ]
      refine wpAnyH_done (by kernel_rfl) ?_ _
      go_wp2
      go_roundw
      case rel => exact ⟨k + 1, by omega, by go_num, hb1⟩
      case measure => simp [intOf]; omega
    · obtain rfl : k = L.length := by omega
      go_wp2
      go_ret
      exact ⟨rfl, hb⟩

end Go.Proofs.Ytnpiljegdiconab
namespace Go.Proofs.Ytnpiljegdiconab
open Go.ChangeShapes Go.WideShapes Go.ChangeAt Go.RowKit
open Go.ChangeMaps (open_string shut_string)
set_option linter.unusedVariables false
set_option maxRecDepth 100000

/-- A box's cells, of which some are another one's. -/
structure TenZ (w : World) (q : Nat) (x z : BxD) : Prop where
  c0 : w.cell? ⟨q, 0, none⟩ = some (.int .i64 x.id)
  c1 : w.cell? ⟨q, 1, none⟩ = some (.int .i64 x.po)
  c2 : w.cell? ⟨q, 2, none⟩ = some (.int .i64 x.rg.ep)
  c3 : w.cell? ⟨q, 3, none⟩ = some (.int .i64 x.rg.ow)
  c4 : w.cell? ⟨q, 4, none⟩ = some (.int .i64 x.rg.pa)
  c5 : w.cell? ⟨q, 5, none⟩ = some (.slice z.aT z.two.length z.cT)
  c6 : w.cell? ⟨q, 6, none⟩ = some (.slice z.aN x.net.length z.cN)
  c7 : w.cell? ⟨q, 7, none⟩ = some (.slice z.aG x.ga.length z.cG)
  c8 : w.cell? ⟨q, 8, none⟩ = some (.slice z.aL x.ln.length z.cL)
  c9 : w.cell? ⟨q, 9, none⟩ = some (.slice z.aS x.sd.length z.cS)
theorem TenZ.below {w w' : World} {q n : Nat} {x z : BxD} (h : TenZ w q x z) (k : Below n w w') (hq : q < n) : TenZ w' q x z :=
  ⟨(World.cell?_of_block (a := ⟨q, 0, none⟩) (k.block q hq)).trans h.c0, (World.cell?_of_block (a := ⟨q, 1, none⟩) (k.block q hq)).trans h.c1, (World.cell?_of_block (a := ⟨q, 2, none⟩) (k.block q hq)).trans h.c2, (World.cell?_of_block (a := ⟨q, 3, none⟩) (k.block q hq)).trans h.c3, (World.cell?_of_block (a := ⟨q, 4, none⟩) (k.block q hq)).trans h.c4, (World.cell?_of_block (a := ⟨q, 5, none⟩) (k.block q hq)).trans h.c5, (World.cell?_of_block (a := ⟨q, 6, none⟩) (k.block q hq)).trans h.c6, (World.cell?_of_block (a := ⟨q, 7, none⟩) (k.block q hq)).trans h.c7, (World.cell?_of_block (a := ⟨q, 8, none⟩) (k.block q hq)).trans h.c8, (World.cell?_of_block (a := ⟨q, 9, none⟩) (k.block q hq)).trans h.c9⟩
theorem TenZ.lt {w : World} {q : Nat} {x z : BxD} (h : TenZ w q x z) : q < w.heap.size := World.block_lt_of_cell? w _ h.c0
set_option maxHeartbeats 2000000 in
theorem bxEq0 (x z : BxD) (w : World) (I : BxIn w x) (J : BxIn w z) (K : BxSm x) (ht : z.two.map MiD.m = x.two.map MiD.m) (e3 : z.net = x.net) (e4 : z.ga = x.ga) (e5 : z.ln = x.ln) (e6 : z.sd = x.sd) :
    Calls Try.prog 8 #[.agg #[.int .i64 x.id, .int .i64 x.po, .int .i64 x.rg.ep, .int .i64 x.rg.ow, .int .i64 x.rg.pa, .slice x.aT x.two.length x.cT, .slice x.aN x.net.length x.cN, .slice x.aG x.ga.length x.cG, .slice x.aL x.ln.length x.cL, .slice x.aS x.sd.length x.cS], .agg #[.int .i64 x.id, .int .i64 x.po, .int .i64 x.rg.ep, .int .i64 x.rg.ow, .int .i64 x.rg.pa, .slice z.aT z.two.length z.cT, .slice z.aN x.net.length z.cN, .slice z.aG x.ga.length z.cG, .slice z.aL x.ln.length z.cL, .slice z.aS x.sd.length z.cS]] w fun e w' => e = .returned (.bool true) ∧ Below w.heap.size w w' := by
  have d0 : (x.id != x.id) = false := by simp
  have d1 : (x.po != x.po) = false := by simp
  obtain ⟨y, hy⟩ : ∃ y, y = (w.alloc (Obj.cells #[.int .i64 x.id, .int .i64 x.po, .int .i64 x.rg.ep, .int .i64 x.rg.ow, .int .i64 x.rg.pa, .slice x.aT x.two.length x.cT, .slice x.aN x.net.length x.cN, .slice x.aG x.ga.length x.cG, .slice x.aL x.ln.length x.cL, .slice x.aS x.sd.length x.cS] 39)).alloc (Obj.cells #[.int .i64 x.id, .int .i64 x.po, .int .i64 x.rg.ep, .int .i64 x.rg.ow, .int .i64 x.rg.pa, .slice z.aT z.two.length z.cT, .slice z.aN x.net.length z.cN, .slice z.aG x.ga.length z.cG, .slice z.aL x.ln.length z.cL, .slice z.aS x.sd.length z.cS] 39) := ⟨_, rfl⟩
  have B0 : Below w.heap.size w y := by rw [hy]; exact ((Below.refl _ _).alloc (Nat.le_refl _) _).alloc (by simp) _
  have A : BxAt y w.heap.size x := by rw [hy]; constructor <;> simp [go_sem]
  have C : TenZ y (w.heap.size + 1) x z := by rw [hy]; constructor <;> simp [go_sem]
  have I := I.below B0
  have Jn : FView wiEnc y z.aN x.net := by have := (J.below B0).n; rw [e3] at this; exact this
  have Jg : FView boEnc y z.aG x.ga := by have := (J.below B0).g; rw [e4] at this; exact this
  have Ji : FView ikEnc y z.aL x.ln := by have := (J.below B0).i; rw [e5] at this; exact this
  have Js : FView ouEnc y z.aS x.sd := by have := (J.below B0).s; rw [e6] at this; exact this
  have Jt := (J.below B0).t
  clear J e3 e4 e5 e6
  go_enter Try.func8, Try.ntmps8
  have cc := A
  obtain ⟨a0, a1, a2, a3, a4, a5, a6, a7, a8, a9⟩ := cc
  have cc := C
  obtain ⟨c0, c1, c2, c3, c4, c5, c6, c7, c8, c9⟩ := cc
  go_wp2_with fail
  go_at_call 23
  rw [← hy]
  clear a0 a1 a2 a3 a4 a5 a6 a7 a8 a9 c0 c1 c2 c3 c4 c5 c6 c7 c8 c9 hy
  refine (eqRg x.rg y).mono ?_
  rintro e u0 ⟨rfl, k0⟩
  have A := A.below k0 A.lt
  have C := C.below k0 C.lt
  have I := I.below k0
  have Jt := Jt.below k0 (Nat.le_refl _)
  have Jn := Jn.below k0 (Jn.lt wiEnc_len (by omega))
  have Jg := Jg.below k0 (Jg.lt boEnc_len (by omega))
  have Ji := Ji.below k0 (Ji.lt ikEnc_len (by omega))
  have Js := Js.below k0 (Js.lt ouEnc_len (by omega))
  have B0 := B0.trans (k0.mono B0.size)
  clear k0
  have cc := A
  obtain ⟨a0, a1, a2, a3, a4, a5, a6, a7, a8, a9⟩ := cc
  have cc := C
  obtain ⟨c0, c1, c2, c3, c4, c5, c6, c7, c8, c9⟩ := cc
  go_wp2_with fail
  go_at_call 24
  clear a0 a1 a2 a3 a4 a5 a6 a7 a8 a9 c0 c1 c2 c3 c4 c5 c6 c7 c8 c9
  refine (mdEq x.aT z.aT x.cT z.cT x.two z.two u0 I.t Jt ht K.t K.ls).mono ?_
  rintro e u1 ⟨rfl, k1⟩
  have A := A.below k1 A.lt
  have C := C.below k1 C.lt
  have I := I.below k1
  have Jt := Jt.below k1 (Nat.le_refl _)
  have Jn := Jn.below k1 (Jn.lt wiEnc_len (by omega))
  have Jg := Jg.below k1 (Jg.lt boEnc_len (by omega))
  have Ji := Ji.below k1 (Ji.lt ikEnc_len (by omega))
  have Js := Js.below k1 (Js.lt ouEnc_len (by omega))
  have B0 := B0.trans (k1.mono B0.size)
  clear k1
  have cc := A
  obtain ⟨a0, a1, a2, a3, a4, a5, a6, a7, a8, a9⟩ := cc
  have cc := C
  obtain ⟨c0, c1, c2, c3, c4, c5, c6, c7, c8, c9⟩ := cc
  go_wp2_with fail
  go_at_call 25
  clear a0 a1 a2 a3 a4 a5 a6 a7 a8 a9 c0 c1 c2 c3 c4 c5 c6 c7 c8 c9
  refine (wiEqS x.aN z.aN x.cN z.cN x.net u1 I.n Jn K.n).mono ?_
  rintro e u2 ⟨rfl, k2⟩
  have A := A.below k2 A.lt
  have C := C.below k2 C.lt
  have I := I.below k2
  have Jt := Jt.below k2 (Nat.le_refl _)
  have Jn := Jn.below k2 (Jn.lt wiEnc_len (by omega))
  have Jg := Jg.below k2 (Jg.lt boEnc_len (by omega))
  have Ji := Ji.below k2 (Ji.lt ikEnc_len (by omega))
  have Js := Js.below k2 (Js.lt ouEnc_len (by omega))
  have B0 := B0.trans (k2.mono B0.size)
  clear k2
  have cc := A
  obtain ⟨a0, a1, a2, a3, a4, a5, a6, a7, a8, a9⟩ := cc
  have cc := C
  obtain ⟨c0, c1, c2, c3, c4, c5, c6, c7, c8, c9⟩ := cc
  go_wp2_with fail
  go_at_call 26
  clear a0 a1 a2 a3 a4 a5 a6 a7 a8 a9 c0 c1 c2 c3 c4 c5 c6 c7 c8 c9
  refine (boEq x.aG z.aG x.cG z.cG x.ga u2 I.g Jg K.g).mono ?_
  rintro e u3 ⟨rfl, k3⟩
  have A := A.below k3 A.lt
  have C := C.below k3 C.lt
  have I := I.below k3
  have Jt := Jt.below k3 (Nat.le_refl _)
  have Jn := Jn.below k3 (Jn.lt wiEnc_len (by omega))
  have Jg := Jg.below k3 (Jg.lt boEnc_len (by omega))
  have Ji := Ji.below k3 (Ji.lt ikEnc_len (by omega))
  have Js := Js.below k3 (Js.lt ouEnc_len (by omega))
  have B0 := B0.trans (k3.mono B0.size)
  clear k3
  have cc := A
  obtain ⟨a0, a1, a2, a3, a4, a5, a6, a7, a8, a9⟩ := cc
  have cc := C
  obtain ⟨c0, c1, c2, c3, c4, c5, c6, c7, c8, c9⟩ := cc
  go_wp2_with fail
  go_at_call 27
  clear a0 a1 a2 a3 a4 a5 a6 a7 a8 a9 c0 c1 c2 c3 c4 c5 c6 c7 c8 c9
  refine (ikEqS x.aL z.aL x.cL z.cL x.ln u3 I.i Ji K.i).mono ?_
  rintro e u4 ⟨rfl, k4⟩
  have A := A.below k4 A.lt
  have C := C.below k4 C.lt
  have I := I.below k4
  have Jt := Jt.below k4 (Nat.le_refl _)
  have Jn := Jn.below k4 (Jn.lt wiEnc_len (by omega))
  have Jg := Jg.below k4 (Jg.lt boEnc_len (by omega))
  have Ji := Ji.below k4 (Ji.lt ikEnc_len (by omega))
  have Js := Js.below k4 (Js.lt ouEnc_len (by omega))
  have B0 := B0.trans (k4.mono B0.size)
  clear k4
  have cc := A
  obtain ⟨a0, a1, a2, a3, a4, a5, a6, a7, a8, a9⟩ := cc
  have cc := C
  obtain ⟨c0, c1, c2, c3, c4, c5, c6, c7, c8, c9⟩ := cc
  go_wp2_with fail
  go_at_call 28
  clear a0 a1 a2 a3 a4 a5 a6 a7 a8 a9 c0 c1 c2 c3 c4 c5 c6 c7 c8 c9
  refine (ouEqS x.aS z.aS x.cS z.cS x.sd u4 I.s Js K.s).mono ?_
  rintro e u5 ⟨rfl, k5⟩
  have A := A.below k5 A.lt
  have C := C.below k5 C.lt
  have I := I.below k5
  have Jt := Jt.below k5 (Nat.le_refl _)
  have Jn := Jn.below k5 (Jn.lt wiEnc_len (by omega))
  have Jg := Jg.below k5 (Jg.lt boEnc_len (by omega))
  have Ji := Ji.below k5 (Ji.lt ikEnc_len (by omega))
  have Js := Js.below k5 (Js.lt ouEnc_len (by omega))
  have B0 := B0.trans (k5.mono B0.size)
  clear k5
  go_wp2
  go_ret
  exact ⟨rfl, B0⟩
theorem bxEq (x z : BxD) (w : World) (I : BxIn w x) (J : BxIn w z) (K : BxSm x) (hp : z.p = x.p) :
    Calls Try.prog 8 #[.agg #[.int .i64 x.id, .int .i64 x.po, .int .i64 x.rg.ep, .int .i64 x.rg.ow, .int .i64 x.rg.pa, .slice x.aT x.two.length x.cT, .slice x.aN x.net.length x.cN, .slice x.aG x.ga.length x.cG, .slice x.aL x.ln.length x.cL, .slice x.aS x.sd.length x.cS], .agg #[.int .i64 z.id, .int .i64 z.po, .int .i64 z.rg.ep, .int .i64 z.rg.ow, .int .i64 z.rg.pa, .slice z.aT z.two.length z.cT, .slice z.aN z.net.length z.cN, .slice z.aG z.ga.length z.cG, .slice z.aL z.ln.length z.cL, .slice z.aS z.sd.length z.cS]] w fun e w' => e = .returned (.bool true) ∧ Below w.heap.size w w' := by
  obtain ⟨zid, zpo, zrg, ztwo, zaT, zcT, znet, zaN, zcN, zga, zaG, zcG, zln, zaL, zcL, zsd, zaS, zcS⟩ := z
  unfold BxD.p at hp
  simp only [Bx.mk.injEq] at hp
  obtain ⟨rfl, rfl, rfl, ht, rfl, rfl, rfl, rfl⟩ := hp
  exact bxEq0 x ⟨x.id, x.po, x.rg, ztwo, zaT, zcT, x.net, zaN, zcN, x.ga, zaG, zcG, x.ln, zaL, zcL, x.sd, zaS, zcS⟩ w I J K ht rfl rfl rfl rfl

end Go.Proofs.Ytnpiljegdiconab
namespace Go.Proofs.Ytnpiljegdiconab
open Go.ChangeShapes Go.WideShapes Go.ChangeAt Go.RowKit
open Go.ChangeMaps (open_string shut_string)
set_option linter.unusedVariables false
set_option maxRecDepth 100000

end Go.Proofs.Ytnpiljegdiconab
namespace Go.Proofs.Ytnpiljegdiconab
open Go.ChangeShapes Go.WideShapes Go.ChangeAt Go.RowKit
open Go.ChangeMaps (open_string shut_string)
set_option linter.unusedVariables false
set_option maxRecDepth 100000

end Go.Proofs.Ytnpiljegdiconab
namespace Go.Proofs.Ytnpiljegdiconab
open Go.ChangeShapes Go.WideShapes Go.ChangeAt Go.RowKit
open Go.ChangeMaps (open_string shut_string)
set_option linter.unusedVariables false
set_option maxRecDepth 100000

end Go.Proofs.Ytnpiljegdiconab
namespace Go.Proofs.Ytnpiljegdiconab
open Go.ChangeShapes Go.WideShapes Go.ChangeAt Go.RowKit
open Go.ChangeMaps (open_string shut_string)
set_option linter.unusedVariables false
set_option maxRecDepth 100000

theorem markd_same {X : Type} {mk : Nat → X} {L : List X} {k : Nat} (d : X) (h : k < L.length) (e : mk k = L.getD k d) : markd mk L (k + 1) = markd mk L k := by
  unfold markd
  rw [List.range_succ, List.map_append, List.drop_eq_getElem_cons h]
  simp [e, List.getD, h]
theorem pOk_down {x : Pt} (h : pOk x = true) (hu : x.up = false) : x.has = false := by
  cases hh : x.has
  · rfl
  · rw [(pOk_has h hh).1] at hu; cases hu
theorem root_has {id : Int} {L : List Pt} {k : Nat} {h : Pt} (hr : rootO id L = some k) (hh : L.getD k Pt.nil = h) : h.has = true := by
  have := (rootO_some hr).2.2
  rw [hh] at this
  simp only [cand, Bool.and_eq_true] at this
  exact this.1
end Go.Proofs.Ytnpiljegdiconab
namespace Go.Proofs.Ytnpiljegdiconab
open Go.ChangeShapes Go.WideShapes Go.ChangeAt Go.RowKit
open Go.ChangeMaps (open_string shut_string)
set_option linter.unusedVariables false
set_option maxRecDepth 100000

end Go.Proofs.Ytnpiljegdiconab
namespace Go.Proofs.Ytnpiljegdiconab
open Go.ChangeShapes Go.WideShapes Go.ChangeAt Go.RowKit
open Go.ChangeMaps (open_string shut_string)
set_option linter.unusedVariables false
set_option maxRecDepth 100000

end Go.Proofs.Ytnpiljegdiconab
namespace Go.Proofs.Ytnpiljegdiconab
open Go.ChangeShapes Go.WideShapes Go.ChangeAt Go.RowKit
open Go.ChangeMaps (open_string shut_string)
set_option linter.unusedVariables false
set_option maxRecDepth 100000

end Go.Proofs.Ytnpiljegdiconab
namespace Go.Proofs.Ytnpiljegdiconab
open Go.ChangeShapes Go.WideShapes Go.ChangeAt Go.RowKit
open Go.ChangeMaps (open_string shut_string)
set_option linter.unusedVariables false
set_option maxRecDepth 100000

theorem markd_getD {X : Type} {mk : Nat → X} {L : List X} {k : Nat} (d : X) (h : k < L.length) : (markd mk L k).getD k d = L.getD k d := by
  unfold markd
  rw [List.getD_eq_getElem?_getD, List.getElem?_append_right (by simp), List.getD_eq_getElem?_getD]
  simp
end Go.Proofs.Ytnpiljegdiconab
namespace Go.Proofs.Ytnpiljegdiconab
open Go.ChangeShapes Go.WideShapes Go.ChangeAt Go.RowKit
open Go.ChangeMaps (open_string shut_string)
set_option linter.unusedVariables false
set_option maxRecDepth 100000

end Go.Proofs.Ytnpiljegdiconab
namespace Go.Proofs.Ytnpiljegdiconab
open Go.ChangeShapes Go.WideShapes Go.ChangeAt Go.RowKit
open Go.ChangeMaps (open_string shut_string)
set_option linter.unusedVariables false
set_option maxRecDepth 100000

end Go.Proofs.Ytnpiljegdiconab
namespace Go.Proofs.Ytnpiljegdiconab
open Go.ChangeShapes Go.WideShapes Go.ChangeAt Go.RowKit
open Go.ChangeMaps (open_string shut_string)
set_option linter.unusedVariables false
set_option maxRecDepth 100000

theorem bOk_len4 {id : Int} {L : List Pt} (h : bOk id L = true) : L.length ≤ 4 := (bOk_all h).2.1.2
theorem reactO_len (id : Int) (L : List Pt) (x : Ik) : (reactO id L x).length ≤ 8 := by
  unfold reactO
  split
  · rename_i h
    unfold goes at h
    simp only [Bool.and_eq_true] at h
    have h4 := bOk_len4 h.1
    have h1 := gates_len L (afterL id L x) L.length
    have h2 := told_len id (afterL id L x) L.length
    rw [List.length_append]
    split
    · omega
    · simp; omega
  · simp

end Go.Proofs.Ytnpiljegdiconab
namespace Go.Proofs.Ytnpiljegdiconab
open Go.ChangeShapes Go.WideShapes Go.ChangeAt Go.RowKit
open Go.ChangeMaps (open_string shut_string)
set_option linter.unusedVariables false
set_option maxRecDepth 100000

theorem FView.take {X : Type} {enc : X → List Value} {w : World} {ad : Option Addr} {L : List X} (h : FView enc w ad L) (k : Nat) : FView enc w ad (L.take k) := by
  intro hp
  obtain ⟨b, off, e, hc⟩ := h (by rw [List.length_take] at hp; omega)
  refine ⟨b, off, e, fun j v hv => hc j v ?_⟩
  rw [← List.take_append_drop k L, fcells_app, List.getElem?_append_left (List.getElem?_eq_some_iff.1 hv).1]
  exact hv
/-- The bridge that a log tells of. -/
def ofR (id n : Int) (X : List Ik) : List Pt := ofL (newI id n) (newL id n) X
theorem newL_small (id n : Int) : (newL id n).length ≤ 4 := by
  unfold newL
  split
  · rename_i q
    unfold nOk at q
    simp only [Bool.and_eq_true, decide_eq_true_eq] at q
    rw [List.length_replicate]
    omega
  · simp
theorem ofR_len (id n : Int) (X : List Ik) : (ofR id n X).length ≤ 4 := by
  unfold ofR; rw [ofL_len]; exact newL_small id n
theorem ofR_not {id n : Int} (X : List Ik) (h : nOk id n = false) : ofR id n X = [] ∧ newI id n = 0 := by
  have e1 : newI id n = 0 := by unfold newI; rw [h]; rfl
  have e2 : newL id n = [] := by unfold newL; rw [h]; rfl
  refine ⟨?_, e1⟩
  unfold ofR
  rw [e1, e2]
  exact ofL_not X (by decide)
/-- What a log says at one of its places. -/
def sayR (id n : Int) (X : List Ik) (i : Int) : List Ou := sayL (newI id n) (newL id n) X Ik.nil i
theorem sayR_len (id n : Int) (X : List Ik) (i : Int) : (sayR id n X i).length ≤ 8 := by
  unfold sayR sayL
  split
  · exact reactO_len _ _ _
  · simp
theorem BBox.put1 {w : World} {q : Nat} {id : Int} {v : Value} (h : BBox w q id v) (id' : Int) (v' : Value) (k : Nat) (hk : k ≠ q) : ((w.setCell ⟨q, 0, none⟩ (.int .i64 id')).setCell ⟨q, 1, none⟩ v').heap[k]? = w.heap[k]? := by
  rw [Below.heap_setCell _ _ _ _ hk, Below.heap_setCell _ _ _ _ hk]

end Go.Proofs.Ytnpiljegdiconab
namespace Go.Proofs.Ytnpiljegdiconab
open Go.ChangeShapes Go.WideShapes Go.ChangeAt Go.RowKit
open Go.ChangeMaps (open_string shut_string)
set_option linter.unusedVariables false
set_option maxRecDepth 100000

theorem MdAtO.belowJ {w w' : World} {q o n : Nat} {x : MiD} (h : MdAtO w q o x) (k : Below n w w') (hq : q < n) : MdAtO w' q o x :=
  ⟨(World.cell?_of_block (a := ⟨q, o, none⟩) (k.block q hq)).trans h.c0, (World.cell?_of_block (a := ⟨q, o + 1, none⟩) (k.block q hq)).trans h.c1, (World.cell?_of_block (a := ⟨q, o + 2, none⟩) (k.block q hq)).trans h.c2, (World.cell?_of_block (a := ⟨q, o + 3, none⟩) (k.block q hq)).trans h.c3, (World.cell?_of_block (a := ⟨q, o + 4, none⟩) (k.block q hq)).trans h.c4, (World.cell?_of_block (a := ⟨q, o + 5, none⟩) (k.block q hq)).trans h.c5, (World.cell?_of_block (a := ⟨q, o + 6, none⟩) (k.block q hq)).trans h.c6⟩
theorem bxOk_smJ {x : BxD} (h : bxOk x.p = true) : x.two.length = 2 ∧ (∀ k, k < 2 → miOk (x.two.getD k MiD.nil).m = true) ∧ x.net.length ≤ 20 ∧ x.ga.length ≤ 4 ∧ x.ln.length ≤ 60 ∧ x.sd.length ≤ 40 := by
  obtain ⟨h1, h2, h3, h4, h5, h6, h7, h8, h9, h10⟩ := bxOk_is.1 h
  have e : x.two.length = 2 := by have h3 : (x.two.map MiD.m).length = 2 := h3; simpa using h3
  refine ⟨e, ?_, h7, ?_, ?_, h10⟩
  · intro k hk
    rcases (by omega : k = 0 ∨ k = 1) with rfl | rfl
    · rw [mOf_p] at h4; exact h4
    · rw [mOf_p] at h5; exact h5
  · unfold nOk at h1
    simp only [Bool.and_eq_true, decide_eq_true_eq] at h1
    have h8 : (x.ga.length : Int) = x.po := h8
    have := h1.2.2
    have h9 : x.p.po = x.po := rfl
    omega
  · unfold insB at h9
    simp only [Bool.and_eq_true, decide_eq_true_eq] at h9
    exact h9.2
theorem miOk_lgJ {m : Mi} (h : miOk m = true) : m.lg.length ≤ 60 := by
  obtain ⟨_, _, _, h4, _⟩ := miOk_iff.1 h
  unfold insB at h4
  simp only [Bool.and_eq_true, decide_eq_true_eq] at h4
  exact h4.2
/-- Answers whether Q. -/
def YN (e : Ending) (Q : Prop) : Prop := ∃ R : Bool, e = .returned (.bool R) ∧ (R = true ↔ Q)
theorem YN.no {Q : Prop} (h : ¬ Q) : YN (.returned (.bool false)) Q := ⟨false, rfl, ⟨fun h => (by cases h), fun q => absurd q h⟩⟩
theorem YN.yes {Q : Prop} (h : Q) : YN (.returned (.bool true)) Q := ⟨true, rfl, ⟨fun _ => h, fun _ => rfl⟩⟩
theorem YN.is {Q : Prop} {R : Bool} (h : R = true ↔ Q) : YN (.returned (.bool R)) Q := ⟨R, rfl, h⟩
/-- All that is said of a log, one bridge going through it. -/
def outsA (id : Int) (L : List Pt) (X : List Ik) : List Ou := (X.foldl (fun p x => (reactL id p.1 x, p.2 ++ reactO id p.1 x)) (L, ([] : List Ou))).2
theorem outsA_run (id : Int) (X : List Ik) : ∀ (L : List Pt) (P : List Ou), X.foldl (fun p x => (reactL id p.1 x, p.2 ++ reactO id p.1 x)) (L, P) = (ofL id L X, P ++ outsA id L X) := by
  induction X with
  | nil => intro L P; simp [outsA, ofL]
  | cons x X ih =>
    intro L P
    have h1 := ih (reactL id L x) (P ++ reactO id L x)
    have h2 := ih (reactL id L x) ([] ++ reactO id L x)
    have h3 : outsA id L (x :: X) = (X.foldl (fun p x => (reactL id p.1 x, p.2 ++ reactO id p.1 x)) (reactL id L x, [] ++ reactO id L x)).2 := rfl
    rw [List.foldl_cons, h3, h2]
    show X.foldl (fun p x => (reactL id p.1 x, p.2 ++ reactO id p.1 x)) (reactL id L x, P ++ reactO id L x) = _
    rw [h1]
    simp [ofL]
theorem outsA_snoc (id : Int) (L : List Pt) (X : List Ik) (x : Ik) : outsA id L (X ++ [x]) = outsA id L X ++ reactO id (ofL id L X) x := by
  have h1 := outsA_run id X L []
  unfold outsA
  rw [List.foldl_append, h1]
  simp [outsA]
theorem outsA_step (id : Int) (L : List Pt) (X : List Ik) (d : Ik) {k : Nat} (hk : k < X.length) : outsA id L (X.take (k + 1)) = outsA id L (X.take k) ++ reactO id (ofL id L (X.take k)) (X.getD k d) := by
  rw [List.take_add_one]
  have e : X[k]?.toList = [X.getD k d] := by simp [List.getD, hk]
  rw [e, outsA_snoc]
theorem outsA_len (id : Int) (L : List Pt) (X : List Ik) : (outsA id L X).length ≤ 8 * X.length := by
  have h : ∀ k, k ≤ X.length → (outsA id L (X.take k)).length ≤ 8 * k := by
    intro k
    induction k with
    | zero => intro _; simp [outsA]
    | succ k ih =>
      intro hk
      rw [outsA_step id L X ikN (by omega), List.length_append]
      have := ih (by omega)
      have := reactO_len id (ofL id L (X.take k)) (X.getD k ikN)
      omega
  have := h X.length (Nat.le_refl _)
  rwa [List.take_length] at this
/-- The gates are those of the bridge of Line. -/
def gatesJ (x : Bx) : Prop := gatesR (ofR x.id x.po x.ln) = x.ga
/-- What was said is what the bridge of Line would have said. -/
def saidJ (x : Bx) : Prop := lastS (outsA (newI x.id x.po) (newL x.id x.po) x.ln) = x.sd
def begJ (A B : List Ik) : Prop := B.take A.length = A
theorem begJ_len {A B : List Ik} (h : begJ A B) : A.length ≤ B.length := by
  have := congrArg List.length h
  rw [List.length_take] at this
  omega
def ownJ (x : Bx) : Prop := mindsX x x.rg.ow = true → begJ x.ln (mOf x x.rg.ow).lg ∧ (mOf x x.rg.ow).sd = (x.ln.length : Int)
def pairJ (x : Bx) : Prop := (mOf x (1 - x.rg.ow)).up = true ∧ 0 < (mOf x (1 - x.rg.ow)).li ∧ (mOf x (1 - x.rg.ow)).li = x.rg.pa ∧ (mOf x (1 - x.rg.ow)).ep = 0
def hasJ (x : Bx) : Prop := pairJ x → begJ x.ln (mOf x (1 - x.rg.ow)).lg
/-- A box that can be read, its logs within their room. -/
structure BxJ (w : World) (x : BxD) : Prop where
  v : BxV w x
  c : ∀ i, i < x.two.length → (x.two.getD i MiD.nil).m.lg.length ≤ (x.two.getD i MiD.nil).cap
theorem BxJ.later {w w' : World} {x : BxD} (h : BxJ w x) (k : Below w.heap.size w w') : BxJ w' x := ⟨h.v.later k, h.c⟩
theorem bxOk_ow {x : BxD} (h : bxOk x.p = true) : 0 ≤ x.rg.ow ∧ x.rg.ow ≤ 1 := by
  obtain ⟨h1, h2, _⟩ := bxOk_is.1 h
  have h2 : rgOk x.rg = true := h2
  unfold rgOk at h2
  simp only [Bool.and_eq_true, decide_eq_true_eq] at h2
  omega
theorem begJ_iff {A B : List Ik} (h : A.length ≤ B.length) : B.take A.length = A ↔ begJ A B := Iff.rfl

end Go.Proofs.Ytnpiljegdiconab
namespace Go.Proofs.Ytnpiljegdiconab
open Go.ChangeShapes Go.WideShapes Go.ChangeAt Go.RowKit
open Go.ChangeMaps (open_string shut_string)
set_option linter.unusedVariables false
set_option maxRecDepth 100000

set_option maxHeartbeats 4000000 in
theorem newBS (id n : Int) (w : World) :
    Calls Try.prog 30 #[.int .i64 id, .int .i64 n] w fun e w' => ∃ ad' cap', e = .returned (.tuple #[.agg #[.int .i64 (newI id n), .slice ad' (newL id n).length cap'], .bool (nOk id n)]) ∧ FOwn ptEnc 11 101 w.heap.size w' (.slice ad' (newL id n).length cap') (newL id n) ∧ Below w.heap.size w w' := by
  obtain ⟨i0, hi, hz0, hz1, hz2⟩ := info_parts ptInfo
  obtain ⟨y, hy⟩ : ∃ y, y = (w.alloc (Obj.cells #[.int .i64 0, .slice none 0 0] 68)).alloc (Obj.cells #[.int .i64 id, .slice none 0 0] 68) := ⟨_, rfl⟩
  have B0 : Below w.heap.size w y := by rw [hy]; exact ((Below.refl _ _).alloc (Nat.le_refl _) _).alloc (by simp) _
  have R0 : BBox y w.heap.size 0 (.slice none 0 0) := by rw [hy]; refine ⟨?_, fun i => ?_⟩; constructor <;> simp [go_sem]; simp [go_sem]
  have N0 : BBox y (w.heap.size + 1) id (.slice none 0 0) := by rw [hy]; refine ⟨?_, fun i => ?_⟩; constructor <;> simp [go_sem]; simp [go_sem]
  have S0 := N0.lt
  obtain ⟨IV, hI⟩ : ∃ v, v = newI id n := ⟨_, rfl⟩
  obtain ⟨LV, hM⟩ : ∃ v, v = newL id n := ⟨_, rfl⟩
  obtain ⟨NV, hN⟩ : ∃ v, v = nOk id n := ⟨_, rfl⟩
  rw [← hI, ← hM, ← hN]
  obtain ⟨m, hm⟩ : ∃ m : Nat, m = (if n < 5 then n else 5).toNat := ⟨_, rfl⟩
  have hm5 : m ≤ 5 := by rw [hm]; split <;> omega
  have hmn : nOk id n = nOk id (m : Int) := by
    unfold nOk
    congr 1
    apply decide_eq_decide.2
    rw [hm]
    split <;> omega
  have hmt : nOk id n = true → n.toNat = m := by
    intro h
    unfold nOk at h
    simp only [Bool.and_eq_true, decide_eq_true_eq] at h
    rw [hm, if_pos (by omega)]
  obtain ⟨t, ht⟩ : ∃ t : Int, t = (if n < 5 then n else 5) := ⟨_, rfl⟩
  have htm : t ≤ (m : Int) ∧ (0 ≤ t → t = (m : Int)) ∧ (t < 0 → m = 0) := by rw [ht, hm]; split <;> omega
  replace ht : Hid _ := ht
  replace hI : Hid _ := hI
  replace hM : Hid _ := hM
  replace hN : Hid _ := hN
  replace hmn : Hid _ := hmn
  replace hmt : Hid _ := hmt
  replace htm : Hid _ := htm
  clear hm
  go_enter Try.func30, Try.ntmps30
  go_wp2
  rw [← hy]
  clear hy
  go_loopw [7] (fun i wr => ∃ k : Nat, k ≤ m ∧ i = .int .i64 (k : Int) ∧ (∃ adk capk, FOwn ptEnc 11 101 y.heap.size wr (.slice adk k capk) (List.replicate k Pt.nil) ∧ BBox wr (w.heap.size + 1) id (.slice adk k capk)) ∧ BBox wr w.heap.size 0 (.slice none 0 0) ∧ Below w.heap.size w wr ∧ y.heap.size ≤ wr.heap.size) (fun i _ => m - (intOf i).toNat)
  case atStart => exact ⟨0, Nat.zero_le _, rfl, ⟨none, 0, FOwn.nil, N0⟩, R0, B0, Nat.le_refl _⟩
  case round =>
    obtain ⟨k, hk, rfl, ⟨adk, capk, O, N1⟩, R1, B1, S1⟩ := hrel
    obtain ⟨⟨n0, n1⟩, nf⟩ := N1
    have N1 : BBox wr (w.heap.size + 1) id (.slice adk k capk) := ⟨⟨n0, n1⟩, nf⟩
    by_cases hlt : (k : Int) < t
    · have dl : decide ((k : Int) < t) = true := decide_eq_true hlt
      have hkm : k < m := by have := htm.out; omega
      replace hlt : Hid _ := hlt
      go_wp2_with fail
      go_at_call 45
      refine (minS n 5 wr).mono ?_
      rintro e w2 ⟨rfl, rfl⟩
      rw [← ht.out]
      have V1 := FView.one w2 101 Pt.nil
      have B2 := B1.alloc B1.size (Obj.cells #[.bool false, .bool false, .int .i64 0, .int .i64 0, .int .i64 0, .int .i64 0, .int .i64 0, .int .i64 0, .int .i64 0, .int .i64 0, .bool false] 101)
      have O2 : FOwn ptEnc 11 101 y.heap.size (w2.alloc (Obj.cells #[.bool false, .bool false, .int .i64 0, .int .i64 0, .int .i64 0, .int .i64 0, .int .i64 0, .int .i64 0, .int .i64 0, .int .i64 0, .bool false] 101)) (.slice adk k capk) (List.replicate k Pt.nil) := O.later (below_new _)
      have hcn := O.capn
      go_wp2_with (first | (at_builtin; refine fappL ptEnc_len ptEnc_ones rfl _ _ 66 rfl y.heap.size 101 i0 (.agg #[.bool false, .bool false, .int .i64 0, .int .i64 0, .int .i64 0, .int .i64 0, .int .i64 0, .int .i64 0, .int .i64 0, .int .i64 0, .bool false]) 80 Try.underlying66 hi hz0 hz1 hz2 rfl (by decide) (by decide) (.slice adk k capk) (List.replicate k Pt.nil) rfl O2 (some ⟨w2.heap.size, 0, none⟩) 1 [Pt.nil] rfl (fun e => by cases e) V1 ?z0 ?z1 ?_) | go_in)
      case z0 => simp; omega
      case z1 => simp; omega
      intro vZ wZ hownZ hgrowZ _
      have hownZ : FOwn ptEnc 11 101 y.heap.size wZ vZ (List.replicate (k + 1) Pt.nil) := by rw [List.replicate_succ']; exact hownZ
      have ho : ∀ g, (Value.slice adk k capk).ownBlock = some g → y.heap.size ≤ g := fun g e => (O2.lt g e).1
      have BZ : Below w.heap.size w wZ := B2.grown hgrowZ B2.size (fun g e => by have := ho g e; omega)
      have NZ : BBox wZ (w.heap.size + 1) id (.slice adk k capk) := (N1.below (below_new _) N1.lt).keep (hgrowZ.block _ (by have := N1.lt; simp; omega) (fun e => by have := ho _ e.symm; omega))
      have RZ : BBox wZ w.heap.size 0 (.slice none 0 0) := (R1.below (below_new _) R1.lt).keep (hgrowZ.block _ (by have := R1.lt; simp; omega) (fun e => by have := ho _ e.symm; omega))
      have SZ : y.heap.size ≤ wZ.heap.size := by have := hgrowZ.size; simp at this; omega
      obtain ⟨aZ, cZ, hvz⟩ := hownZ.open_
      rw [List.length_replicate] at hvz
      subst hvz
      clear hgrowZ V1 B2 O2 n0 n1 nf N1 R1 O ho hcn
      obtain ⟨⟨q0, q1⟩, qf⟩ := NZ
      have NZ : BBox wZ (w.heap.size + 1) id (.slice adk k capk) := ⟨⟨q0, q1⟩, qf⟩
      have NS : BBox (wZ.setCell ⟨w.heap.size + 1, 1, none⟩ (.slice aZ (k + 1) cZ)) (w.heap.size + 1) id (.slice aZ (k + 1) cZ) := ⟨⟨(pset_else (by decide)).trans q0, pset_same q1⟩, fun i => by rw [World.frozen?_setCell]; exact qf i⟩
      have RS : BBox (wZ.setCell ⟨w.heap.size + 1, 1, none⟩ (.slice aZ (k + 1) cZ)) w.heap.size 0 (.slice none 0 0) := RZ.keep (Below.heap_setCell _ _ _ _ (by show w.heap.size ≠ w.heap.size + 1; omega))
      have OS : FOwn ptEnc 11 101 y.heap.size (wZ.setCell ⟨w.heap.size + 1, 1, none⟩ (.slice aZ (k + 1) cZ)) (.slice aZ (k + 1) cZ) (List.replicate (k + 1) Pt.nil) := hownZ.keep fun g' e => Below.heap_setCell _ _ _ _ (by have := (hownZ.lt g' e).1; show g' ≠ w.heap.size + 1; omega)
      have BS := BZ.setCell (p := ⟨w.heap.size + 1, 1, none⟩) (by show _ ≤ w.heap.size + 1; omega) (.slice aZ (k + 1) cZ)
      clear NZ RZ hownZ BZ
      go_wp2
      go_roundw
      case rel => exact ⟨k + 1, by omega, by go_num, ⟨aZ, cZ, OS, NS⟩, RS, BS, by simpa using SZ⟩
      case measure => simp [intOf]; omega
    · have dl : decide ((k : Int) < t) = false := decide_eq_false hlt
      have hkm : Hid (k = m) := by unfold Hid; have := htm.out; omega
      replace hlt : Hid _ := hlt
      go_wp2_with fail
      go_at_call 45
      refine (minS n 5 wr).mono ?_
      rintro e w2 ⟨rfl, rfl⟩
      rw [← ht.out]
      have hc := bOkS id adk capk (List.replicate k Pt.nil) w2 (by have := O.view.2; exact this) (by rw [List.length_replicate]; omega)
      rw [List.length_replicate, bOk_new, hkm.out, ← hmn.out, ← hkm.out] at hc
      go_wp2_with fail
      go_at_call 46
      refine hc.mono ?_
      rintro e w3 ⟨rfl, k3⟩
      have R3 := R1.below k3 R1.lt
      have N3 := N1.below k3 N1.lt
      have O3 := O.later k3
      have B3 := B1.trans (k3.mono B1.size)
      clear hc k3 n0 n1 nf R1 N1 O
      cases he : nOk id n with
      | false =>
        replace hI : Hid (IV = 0) := by unfold Hid; rw [hI.out]; unfold newI; rw [he]; rfl
        replace hM : Hid (LV = []) := by unfold Hid; rw [hM.out]; unfold newL; rw [he]; rfl
        replace hN : Hid (NV = false) := by unfold Hid; rw [hN.out, he]
        clear he
        have RP := R3.put 0 (.slice none 0 0)
        obtain ⟨⟨r0, r1⟩, rf⟩ := R3
        have BZ := (B3.setCell (p := ⟨w.heap.size, 0, none⟩) (Nat.le_refl w.heap.size) (.int .i64 0)).setCell (p := ⟨w.heap.size, 1, none⟩) (Nat.le_refl w.heap.size) (.slice none 0 0)
        obtain ⟨⟨p0, p1⟩, _⟩ := RP
        go_wp2
        refine bodyPost_ret (v := .tuple #[.agg #[.int .i64 0, .slice none 0 0], .bool false]) (by simp [results, Try.results30, go_sem, *]) rfl ⟨none, 0, by rw [hI.out, hM.out, hN.out]; rfl, by rw [hM.out]; exact FOwn.nil, BZ⟩
      | true =>
        have hRl : Hid (LV.length = k) := by unfold Hid; rw [hM.out]; unfold newL; rw [he, if_pos rfl, List.length_replicate, hmt.out he, hkm.out]
        replace hI : Hid (IV = id) := by unfold Hid; rw [hI.out]; unfold newI; rw [he]; rfl
        replace hM : Hid (LV = List.replicate k Pt.nil) := by unfold Hid; rw [hM.out]; unfold newL; rw [he, if_pos rfl, hmt.out he, hkm.out]
        replace hN : Hid (NV = true) := by unfold Hid; rw [hN.out, he]
        clear he hkm
        have RP := R3.put id (.slice adk k capk)
        obtain ⟨⟨r0, r1⟩, rf⟩ := R3
        obtain ⟨⟨n0, n1⟩, nf⟩ := N3
        have BZ := (B3.setCell (p := ⟨w.heap.size, 0, none⟩) (Nat.le_refl w.heap.size) (.int .i64 id)).setCell (p := ⟨w.heap.size, 1, none⟩) (Nat.le_refl w.heap.size) (.slice adk k capk)
        have OZ : FOwn ptEnc 11 101 w.heap.size ((w3.setCell ⟨w.heap.size, 0, none⟩ (.int .i64 id)).setCell ⟨w.heap.size, 1, none⟩ (.slice adk k capk)) (.slice adk k capk) (List.replicate k Pt.nil) := (O3.base (by omega)).keep fun g' e => by
          have := (O3.lt g' e).1
          rw [Below.heap_setCell _ _ _ _ (by show g' ≠ w.heap.size; omega), Below.heap_setCell _ _ _ _ (by show g' ≠ w.heap.size; omega)]
        obtain ⟨⟨p0, p1⟩, _⟩ := RP
        go_wp2
        refine bodyPost_ret (v := .tuple #[.agg #[.int .i64 id, .slice adk k capk], .bool true]) (by simp [results, Try.results30, go_sem, *]) rfl ⟨adk, capk, by rw [hI.out, hN.out, hRl.out], by rw [hRl.out, hM.out]; exact OZ, BZ⟩

end Go.Proofs.Ytnpiljegdiconab
namespace Go.Proofs.Ytnpiljegdiconab
open Go.ChangeShapes Go.WideShapes Go.ChangeAt Go.RowKit
open Go.ChangeMaps (open_string shut_string)
set_option linter.unusedVariables false
set_option maxRecDepth 100000

theorem p_two_len (x : BxD) : x.p.two.length = x.two.length := by unfold BxD.p; simp
end Go.Proofs.Ytnpiljegdiconab
namespace Go.Proofs.Ytnpiljegdiconab
open Go.ChangeShapes Go.WideShapes Go.ChangeAt Go.RowKit
open Go.ChangeMaps (open_string shut_string)
set_option linter.unusedVariables false
set_option maxRecDepth 100000

theorem MdAtO.below {w w' : World} {q o n : Nat} {x : MiD} (h : MdAtO w q o x) (k : Below n w w') (hq : q < n) : MdAtO w' q o x :=
  ⟨(World.cell?_of_block (a := ⟨q, o, none⟩) (k.block q hq)).trans h.c0, (World.cell?_of_block (a := ⟨q, o + 1, none⟩) (k.block q hq)).trans h.c1, (World.cell?_of_block (a := ⟨q, o + 2, none⟩) (k.block q hq)).trans h.c2, (World.cell?_of_block (a := ⟨q, o + 3, none⟩) (k.block q hq)).trans h.c3, (World.cell?_of_block (a := ⟨q, o + 4, none⟩) (k.block q hq)).trans h.c4, (World.cell?_of_block (a := ⟨q, o + 5, none⟩) (k.block q hq)).trans h.c5, (World.cell?_of_block (a := ⟨q, o + 6, none⟩) (k.block q hq)).trans h.c6⟩
theorem dec40 (n : Nat) : (true && (true && (true && (true && (true && (true && decide (n ≤ 40))))))) = decide ((n : Int) ≤ 40) := by
  by_cases h : n ≤ 40
  · rw [decide_eq_true h, decide_eq_true (show (n : Int) ≤ 40 by omega)]; rfl
  · rw [decide_eq_false h, decide_eq_false (show ¬ (n : Int) ≤ 40 by omega)]; rfl
set_option maxHeartbeats 8000000 in
theorem boxOkS (x : BxD) (w : World) (hV : BxV w x) :
    Calls Try.prog 14 #[.agg #[.int .i64 x.id, .int .i64 x.po, .int .i64 x.rg.ep, .int .i64 x.rg.ow, .int .i64 x.rg.pa, .slice x.aT x.two.length x.cT, .slice x.aN x.net.length x.cN, .slice x.aG x.ga.length x.cG, .slice x.aL x.ln.length x.cL, .slice x.aS x.sd.length x.cS]] w fun e w' => e = .returned (.bool (bxOk x.p)) ∧ Below w.heap.size w w' := by
  obtain ⟨R, hR⟩ : ∃ R, R = bxOk x.p := ⟨_, rfl⟩
  rw [← hR]
  replace hR : Hid _ := hR
  obtain ⟨y, hy⟩ : ∃ y, y = w.alloc (Obj.cells #[.int .i64 x.id, .int .i64 x.po, .int .i64 x.rg.ep, .int .i64 x.rg.ow, .int .i64 x.rg.pa, .slice x.aT x.two.length x.cT, .slice x.aN x.net.length x.cN, .slice x.aG x.ga.length x.cG, .slice x.aL x.ln.length x.cL, .slice x.aS x.sd.length x.cS] 39) := ⟨_, rfl⟩
  have B0 : Below w.heap.size w y := by rw [hy]; exact below_new _
  have A : BxAt y w.heap.size x := by rw [hy]; exact BxAt.new w _ x
  have V := hV.later B0
  go_enter Try.func14, Try.ntmps14
  have cc := A
  obtain ⟨a0, a1, a2, a3, a4, a5, a6, a7, a8, a9⟩ := cc
  go_wp2_with fail
  go_at_call 30
  rw [← hy]
  clear hy hV a0 a1 a2 a3 a4 a5 a6 a7 a8 a9
  refine (newBS x.id x.po y).mono ?_
  rintro e u1 ⟨ab, cb, rfl, _, k1⟩
  have A := A.below k1 A.lt
  have V := V.later k1
  have B1 := B0.trans (k1.mono B0.size)
  clear k1 B0
  obtain ⟨u2, hu2⟩ : ∃ u2, u2 = u1.alloc (Obj.cells #[.int .i64 (newI x.id x.po), .slice ab (newL x.id x.po).length cb] 68) := ⟨_, rfl⟩
  have k2 : Below u1.heap.size u1 u2 := by rw [hu2]; exact below_new _
  have A := A.below k2 A.lt
  have V := V.later k2
  have B2 := B1.trans (k2.mono B1.size)
  go_upto_region 2 with fail
  rw [← hu2]
  clear hu2 k2 B1
  cases h1 : nOk x.id x.po
  · have hN : Hid (R = false) := by unfold Hid; rw [hR.out]; unfold bxOk; rw [show nOk x.p.id x.p.po = _ from h1]; rfl
    go_wp2
    go_ret
    exact ⟨by rw [hN.out]; rfl, B2⟩
  · replace h1 : Hid _ := h1
    have cc := A
    obtain ⟨a0, a1, a2, a3, a4, a5, a6, a7, a8, a9⟩ := cc
    go_wp2_with fail
    go_at_call 31
    clear a0 a1 a2 a3 a4 a5 a6 a7 a8 a9
    refine (regOkS x.rg u2).mono ?_
    rintro e u3 ⟨rfl, k3⟩
    have A := A.below k3 A.lt
    have V := V.later k3
    have B3 := B2.trans (k3.mono B2.size)
    clear k3 B2
    cases h2 : rgOk x.rg
    · have hN : Hid (R = false) := by unfold Hid; rw [hR.out]; unfold bxOk; rw [show nOk x.p.id x.p.po = _ from h1.out, show rgOk x.p.rg = _ from h2]; rfl
      clear h2
      go_wp2
      go_ret
      exact ⟨by rw [hN.out]; rfl, B3⟩
    · replace h2 : Hid _ := h2
      by_cases h3 : x.two.length = 2
      · have d3 : ((x.two.length : Int) != 2) = false := by rw [bne_eq_false_iff_eq]; omega
        have h3' : Hid (decide (x.two.length = 2) = true) := decide_eq_true h3
        replace h3 : Hid (decide (x.p.two.length = 2) = true) := decide_eq_true (by rw [p_two_len]; exact of_decide_eq_true h3'.out)
        have h3n : 1 < x.two.length := by have := of_decide_eq_true h3'.out; omega
        clear h3'
        obtain ⟨d, hd⟩ : ∃ d, x.two.getD 0 MiD.nil = d := ⟨_, rfl⟩
        obtain ⟨d2, hd2⟩ : ∃ d, x.two.getD 1 MiD.nil = d := ⟨_, rfl⟩
        have vl1 := V.l 0 (by omega)
        have vl2 := V.l 1 h3n
        have ll1 := V.bl 0 (by omega)
        have ll2 := V.bl 1 h3n
        rw [hd] at vl1 ll1
        rw [hd2] at vl2 ll2
        have m0 : Hid (mOf x.p 0 = d.m) := by unfold Hid; rw [mOf_p]; show (x.two.getD 0 MiD.nil).m = _; rw [hd]
        have m1 : Hid (mOf x.p 1 = d2.m) := by unfold Hid; rw [mOf_p]; show (x.two.getD 1 MiD.nil).m = _; rw [hd2]
        obtain ⟨b, off, hat, _⟩ := V.t (by omega)
        have hc0 : MdAtO u3 b off d := by have ht := V.t; rw [hat] at ht; have := mdAtO_of (ht.at_ mdEnc_len MiD.nil (show 0 < x.two.length by omega)); rw [hd, Nat.zero_mul, Nat.add_zero] at this; exact this
        have hc1 : MdAtO u3 b (off + 7) d2 := by have ht := V.t; rw [hat] at ht; have := mdAtO_of (ht.at_ mdEnc_len MiD.nil h3n); rw [hd2, Nat.one_mul] at this; exact this
        have hbl : b < u3.heap.size := World.block_lt_of_cell? _ _ hc0.c0
        replace hat : Hid _ := hat
        replace hd : Hid _ := hd
        replace hd2 : Hid _ := hd2
        have cc := A
        obtain ⟨a0, a1, a2, a3, a4, a5, a6, a7, a8, a9⟩ := cc
        rw [hat.out] at a5
        have cc := hc0
        obtain ⟨e0, e1, e2, e3, e4, e5, e6⟩ := cc
        go_wp2_with fail
        go_at_call 32
        clear a0 a1 a2 a3 a4 a5 a6 a7 a8 a9 e0 e1 e2 e3 e4 e5 e6 d3
        refine (miOkS d.m d.ad d.cap u3 vl1 (by omega)).mono ?_
        rintro e u5 ⟨rfl, k5⟩
        have vl2 := vl2.below k5 (vl2.lt ikEnc_len (by omega))
        have hc1 : MdAtO u5 b (off + 7) d2 := hc1.below k5 hbl
        have A := A.below k5 A.lt
        have V := V.later k5
        have B5 := B3.trans (k5.mono B3.size)
        clear k5 B3
        cases h4 : miOk d.m
        · have hN : Hid (R = false) := by unfold Hid; rw [hR.out]; unfold bxOk; rw [show nOk x.p.id x.p.po = _ from h1.out, show rgOk x.p.rg = _ from h2.out, h3.out, show miOk (mOf x.p 0) = false by rw [m0.out]; exact h4]; rfl
          clear h4
          go_wp2
          go_ret
          exact ⟨by rw [hN.out]; rfl, B5⟩
        · replace h4 : Hid (miOk (mOf x.p 0) = true) := by unfold Hid; rw [m0.out]; exact h4
          have cc := A
          obtain ⟨a0, a1, a2, a3, a4, a5, a6, a7, a8, a9⟩ := cc
          rw [hat.out] at a5
          have cc := hc1
          obtain ⟨e0, e1, e2, e3, e4, e5, e6⟩ := cc
          go_wp2_with fail
          go_at_call 32
          clear a0 a1 a2 a3 a4 a5 a6 a7 a8 a9 e0 e1 e2 e3 e4 e5 e6
          refine (miOkS d2.m d2.ad d2.cap u5 vl2 (by omega)).mono ?_
          rintro e u6 ⟨rfl, k6⟩
          have A := A.below k6 A.lt
          have V := V.later k6
          have B6 := B5.trans (k6.mono B5.size)
          clear k6 B5
          cases h5 : miOk d2.m
          · have hN : Hid (R = false) := by unfold Hid; rw [hR.out]; unfold bxOk; rw [show nOk x.p.id x.p.po = _ from h1.out, show rgOk x.p.rg = _ from h2.out, h3.out, h4.out, show miOk (mOf x.p 1) = false by rw [m1.out]; exact h5]; rfl
            clear h5
            go_wp2
            go_ret
            exact ⟨by rw [hN.out]; rfl, B6⟩
          · replace h5 : Hid (miOk (mOf x.p 1) = true) := by unfold Hid; rw [m1.out]; exact h5
            have cc := A
            obtain ⟨a0, a1, a2, a3, a4, a5, a6, a7, a8, a9⟩ := cc
            go_wp2_with fail
            go_at_call 33
            clear a0 a1 a2 a3 a4 a5 a6 a7 a8 a9
            refine (netS x u6 V).mono ?_
            rintro e u7 ⟨rfl, k7⟩
            have A := A.below k7 A.lt
            have V := V.later k7
            have B7 := B6.trans (k7.mono B6.size)
            clear k7 B6
            cases h6 : x.net.all wiOk && decide (x.net.length ≤ 20)
            · have h6' : (x.p.net.all wiOk && (decide (x.p.net.length ≤ 20) && (decide ((x.p.ga.length : Int) = x.p.po) && (insB x.p.ln && decide (x.p.sd.length ≤ 40))))) = false := by rw [← Bool.and_assoc, show (x.p.net.all wiOk && decide (x.p.net.length ≤ 20)) = false from h6]; rfl
              have hN : Hid (R = false) := by unfold Hid; rw [hR.out]; unfold bxOk; rw [show nOk x.p.id x.p.po = _ from h1.out, show rgOk x.p.rg = _ from h2.out, show decide (x.p.two.length = 2) = _ from h3.out, h4.out, h5.out, h6']; rfl
              clear h6 h6'
              go_wp2
              go_ret
              exact ⟨by rw [hN.out]; rfl, B7⟩
            · replace h6 : Hid _ := h6
              have h6' : Hid (∀ t, (x.p.net.all wiOk && (decide (x.p.net.length ≤ 20) && t)) = t) := fun t => by rw [← Bool.and_assoc, show (x.p.net.all wiOk && decide (x.p.net.length ≤ 20)) = true from h6.out]; rfl
              by_cases h7 : (x.ga.length : Int) = x.po
              · have d7 : ((x.ga.length : Int) == x.po) = true := by simpa using h7
                have h7' : Hid (decide ((x.p.ga.length : Int) = x.p.po) = true) := decide_eq_true h7
                replace h7 : Hid _ := h7
                have cc := A
                obtain ⟨a0, a1, a2, a3, a4, a5, a6, a7, a8, a9⟩ := cc
                go_wp2_with fail
                go_at_call 34
                clear a0 a1 a2 a3 a4 a5 a6 a7 a8 a9
                refine (insS x.aL x.cL x.ln u7 V.i (by have := V.bi; omega)).mono ?_
                rintro e u8 ⟨rfl, k8⟩
                have bs := V.bs
                have A := A.below k8 A.lt
                have V := V.later k8
                have B8 := B7.trans (k8.mono B7.size)
                clear k8 B7
                cases h8 : insB x.ln
                · have hN : Hid (R = false) := by unfold Hid; rw [hR.out]; unfold bxOk; rw [show nOk x.p.id x.p.po = _ from h1.out, show rgOk x.p.rg = _ from h2.out, show decide (x.p.two.length = 2) = _ from h3.out, h4.out, h5.out, h6'.out, h7'.out, show insB x.p.ln = _ from h8]; rfl
                  clear h8
                  go_wp2
                  go_ret
                  exact ⟨by rw [hN.out]; rfl, B8⟩
                · replace h8 : Hid _ := h8
                  have cc := A
                  obtain ⟨a0, a1, a2, a3, a4, a5, a6, a7, a8, a9⟩ := cc
                  have hN : Hid (R = decide ((x.sd.length : Int) ≤ 40)) := by unfold Hid; rw [hR.out]; unfold bxOk; rw [show nOk x.p.id x.p.po = _ from h1.out, show rgOk x.p.rg = _ from h2.out, show decide (x.p.two.length = 2) = _ from h3.out, h4.out, h5.out, h6'.out, h7'.out, show insB x.p.ln = _ from h8.out]; exact dec40 x.sd.length
                  go_wp2
                  go_ret
                  exact ⟨by rw [hN.out]; rfl, B8⟩
              · have d7 : ((x.ga.length : Int) == x.po) = false := by rw [beq_eq_false_iff_ne]; exact h7
                have cc := A
                obtain ⟨a0, a1, a2, a3, a4, a5, a6, a7, a8, a9⟩ := cc
                have hN : Hid (R = false) := by unfold Hid; rw [hR.out]; unfold bxOk; rw [show nOk x.p.id x.p.po = _ from h1.out, show rgOk x.p.rg = _ from h2.out, show decide (x.p.two.length = 2) = _ from h3.out, h4.out, h5.out, h6'.out, show decide ((x.p.ga.length : Int) = x.p.po) = false from decide_eq_false h7]; rfl
                clear h7
                go_wp2
                go_ret
                exact ⟨by rw [hN.out]; rfl, B7⟩
      · have d3 : ((x.two.length : Int) != 2) = true := by rw [bne_iff_ne]; omega
        have cc := A
        obtain ⟨a0, a1, a2, a3, a4, a5, a6, a7, a8, a9⟩ := cc
        have hN : Hid (R = false) := by unfold Hid; rw [hR.out]; unfold bxOk; rw [show nOk x.p.id x.p.po = _ from h1.out, show rgOk x.p.rg = _ from h2.out, show decide (x.p.two.length = 2) = false from decide_eq_false (by rw [p_two_len]; exact h3)]; rfl
        clear h3
        go_wp2
        go_ret
        exact ⟨by rw [hN.out]; rfl, B3⟩

end Go.Proofs.Ytnpiljegdiconab
namespace Go.Proofs.Ytnpiljegdiconab
open Go.ChangeShapes Go.WideShapes Go.ChangeAt Go.RowKit
open Go.ChangeMaps (open_string shut_string)
set_option linter.unusedVariables false
set_option maxRecDepth 100000

theorem neqIk_same (x : Ik) (w : World) : (binOp .neq 78 (.agg #[.int .i64 x.k, .int .i64 x.q, .int .i64 x.r, .int .i64 x.c, .int .i64 x.b, .int .i64 x.p, .int .i64 x.h, .bool x.up]) (.agg #[.int .i64 x.k, .int .i64 x.q, .int .i64 x.r, .int .i64 x.c, .int .i64 x.b, .int .i64 x.p, .int .i64 x.h, .bool x.up])).run Try.prog w = .ok (.bool false) w := by
  simp [go_sem]
theorem neqIk_else {x y : Ik} (h : x ≠ y) (w : World) : (binOp .neq 78 (.agg #[.int .i64 x.k, .int .i64 x.q, .int .i64 x.r, .int .i64 x.c, .int .i64 x.b, .int .i64 x.p, .int .i64 x.h, .bool x.up]) (.agg #[.int .i64 y.k, .int .i64 y.q, .int .i64 y.r, .int .i64 y.c, .int .i64 y.b, .int .i64 y.p, .int .i64 y.h, .bool y.up])).run Try.prog w = .ok (.bool true) w := by
  by_cases h0 : x.k = y.k
  rotate_left
  · simp [go_sem, h0]
  by_cases h1 : x.q = y.q
  rotate_left
  · simp [go_sem, h1]
  by_cases h2 : x.r = y.r
  rotate_left
  · simp [go_sem, h2]
  by_cases h3 : x.c = y.c
  rotate_left
  · simp [go_sem, h3]
  by_cases h4 : x.b = y.b
  rotate_left
  · simp [go_sem, h4]
  by_cases h5 : x.p = y.p
  rotate_left
  · simp [go_sem, h5]
  by_cases h6 : x.h = y.h
  rotate_left
  · simp [go_sem, h6]
  by_cases h7 : x.up = y.up
  rotate_left
  · simp [go_sem, h7]
  exact absurd (by cases x; cases y; simp_all) h
theorem neqOu_same (x : Ou) (w : World) : (binOp .neq 89 (.agg #[.int .i64 x.k, .int .i64 x.pt, .int .i64 x.r, .int .i64 x.c, .int .i64 x.b, .int .i64 x.p, .int .i64 x.h, .bool x.on]) (.agg #[.int .i64 x.k, .int .i64 x.pt, .int .i64 x.r, .int .i64 x.c, .int .i64 x.b, .int .i64 x.p, .int .i64 x.h, .bool x.on])).run Try.prog w = .ok (.bool false) w := by
  simp [go_sem]
theorem neqOu_else {x y : Ou} (h : x ≠ y) (w : World) : (binOp .neq 89 (.agg #[.int .i64 x.k, .int .i64 x.pt, .int .i64 x.r, .int .i64 x.c, .int .i64 x.b, .int .i64 x.p, .int .i64 x.h, .bool x.on]) (.agg #[.int .i64 y.k, .int .i64 y.pt, .int .i64 y.r, .int .i64 y.c, .int .i64 y.b, .int .i64 y.p, .int .i64 y.h, .bool y.on])).run Try.prog w = .ok (.bool true) w := by
  by_cases h0 : x.k = y.k
  rotate_left
  · simp [go_sem, h0]
  by_cases h1 : x.pt = y.pt
  rotate_left
  · simp [go_sem, h1]
  by_cases h2 : x.r = y.r
  rotate_left
  · simp [go_sem, h2]
  by_cases h3 : x.c = y.c
  rotate_left
  · simp [go_sem, h3]
  by_cases h4 : x.b = y.b
  rotate_left
  · simp [go_sem, h4]
  by_cases h5 : x.p = y.p
  rotate_left
  · simp [go_sem, h5]
  by_cases h6 : x.h = y.h
  rotate_left
  · simp [go_sem, h6]
  by_cases h7 : x.on = y.on
  rotate_left
  · simp [go_sem, h7]
  exact absurd (by cases x; cases y; simp_all) h
theorem neqBo_same (x : Bool) (w : World) : (binOp .neq 4 (.bool x) (.bool x)).run Try.prog w = .ok (.bool false) w := by
  simp [go_sem]
theorem neqBo_else {x y : Bool} (h : x ≠ y) (w : World) : (binOp .neq 4 (.bool x) (.bool y)).run Try.prog w = .ok (.bool true) w := by
  simp [go_sem, h]
end Go.Proofs.Ytnpiljegdiconab
namespace Go.Proofs.Ytnpiljegdiconab
open Go.ChangeShapes Go.WideShapes Go.ChangeAt Go.RowKit
open Go.ChangeMaps (open_string shut_string)
set_option linter.unusedVariables false
set_option maxRecDepth 100000

theorem lToM_congr {D E : List MiD} (h : E.map MiD.m = D.map MiD.m) : ∀ n, lToM E n = lToM D n
  | 0 => rfl
  | n + 1 => by
    have e : (E.getD n MiD.nil).m = (D.getD n MiD.nil).m := by
      have := congrArg (fun L => L.getD n Mi.nil) h
      simpa only [md_get] using this
    show lToM E n + _ = lToM D n + _
    rw [lToM_congr h n, e]
theorem BxSm.of {x z : BxD} (k : BxSm x) (h : z.p = x.p) : BxSm z := by
  unfold BxD.p at h
  simp only [Bx.mk.injEq] at h
  obtain ⟨_, _, _, ht, hn, hg, hl, hs⟩ := h
  have hlen : z.two.length = x.two.length := by have := congrArg List.length ht; simpa using this
  exact ⟨by rw [hlen]; exact k.t, by rw [hlen, lToM_congr ht]; exact k.l, by rw [hn]; exact k.n, by rw [hg]; exact k.g, by rw [hl]; exact k.i, by rw [hs]; exact k.s⟩
end Go.Proofs.Ytnpiljegdiconab
namespace Go.Proofs.Ytnpiljegdiconab
open Go.ChangeShapes Go.WideShapes Go.ChangeAt Go.RowKit
open Go.ChangeMaps (open_string shut_string)
set_option linter.unusedVariables false
set_option maxRecDepth 100000

set_option linter.unusedSimpArgs false in
set_option maxHeartbeats 4000000 in
theorem pairedI (x : BxD) (w : World) (hJ : BxJ w x) (hb : bxOk x.p = true) :
    Calls Try.prog 22 #[.agg #[.int .i64 x.id, .int .i64 x.po, .int .i64 x.rg.ep, .int .i64 x.rg.ow, .int .i64 x.rg.pa, .slice x.aT x.two.length x.cT, .slice x.aN x.net.length x.cN, .slice x.aG x.ga.length x.cG, .slice x.aL x.ln.length x.cL, .slice x.aS x.sd.length x.cS]] w fun e w' => YN e (pairJ x.p) ∧ Below w.heap.size w w' := by
  obtain ⟨Q, hQ⟩ : ∃ Q : Prop, Q = (pairJ x.p) := ⟨_, rfl⟩
  rw [← hQ]
  replace hQ : Hid _ := hQ
  obtain ⟨y, hy⟩ : ∃ y, y = w.alloc (Obj.cells #[.int .i64 x.id, .int .i64 x.po, .int .i64 x.rg.ep, .int .i64 x.rg.ow, .int .i64 x.rg.pa, .slice x.aT x.two.length x.cT, .slice x.aN x.net.length x.cN, .slice x.aG x.ga.length x.cG, .slice x.aL x.ln.length x.cL, .slice x.aS x.sd.length x.cS] 39) := ⟨_, rfl⟩
  have B : Below w.heap.size w y := by rw [hy]; exact below_new _
  have A : BxAt y w.heap.size x := by rw [hy]; exact BxAt.new w _ x
  have J := hJ.later B
  obtain ⟨o0, o1⟩ := bxOk_ow hb
  obtain ⟨h2, _⟩ := bxOk_smJ hb
  obtain ⟨k, hk⟩ : ∃ k : Nat, 1 - x.rg.ow = (k : Int) := ⟨(1 - x.rg.ow).toNat, by omega⟩
  have hkl : k < x.two.length := by omega
  have hwr : IntKind.i64.wrap (1 - x.rg.ow) = (k : Int) := by rw [IntKind.wrap_i64]; omega
  obtain ⟨g, off, hat, _⟩ := J.v.t (by omega)
  obtain ⟨m, hm⟩ : ∃ m, x.two.getD k MiD.nil = m := ⟨_, rfl⟩
  have M0 : MdAtO y g (off + k * 7) m := by have h1 := J.v.t; rw [hat] at h1; have := mdAtO_of (h1.at_ mdEnc_len MiD.nil hkl); rw [hm] at this; exact this
  have gl : g < y.heap.size := J.v.t.lt mdEnc_len (by omega) _ hat (by omega)
  have hmo : mOf x.p (1 - x.rg.ow) = m.m := by rw [hk, mOf_p]; simp only [Int.toNat_natCast]; rw [hm]
  have hQ2 : Hid (Q ↔ m.m.up = true ∧ 0 < m.m.li ∧ m.m.li = x.rg.pa ∧ m.m.ep = 0) := by unfold Hid; rw [hQ.out]; unfold pairJ; show ((mOf x.p (1 - x.rg.ow)).up = true ∧ 0 < (mOf x.p (1 - x.rg.ow)).li ∧ (mOf x.p (1 - x.rg.ow)).li = x.rg.pa ∧ (mOf x.p (1 - x.rg.ow)).ep = 0) ↔ _; rw [hmo]
  clear hQ hmo hm hk o0 o1 h2 hb J hJ
  replace hat : Hid _ := hat
  go_enter Try.func22, Try.ntmps22
  go_upto_region 1 with fail
  rw [← hy]
  clear hy
  have cc := A
  obtain ⟨a0, a1, a2, a3, a4, a5, a6, a7, a8, a9⟩ := cc
  rw [hat.out] at a5
  obtain ⟨m0, m1, m2, m3, m4, m5, m6⟩ := M0
  go_upto_region 2 with fail
  clear m0 m1 m2 m3 m4 m5 m6 hwr hat
  obtain ⟨⟨up, li, ep, lg, sd, ac, al⟩, ad, cap⟩ := m
  dsimp only at hQ2 ⊢
  obtain ⟨y2, hy2⟩ : ∃ y_, y_ = y.alloc (Obj.cells #[.bool up, .int .i64 li, .int .i64 ep, .slice ad lg.length cap, .int .i64 sd, .int .i64 ac, .int .i64 al] 49) := ⟨_, rfl⟩
  rw [← hy2]
  have kq : Below y.heap.size y y2 := by rw [hy2]; exact below_new _
  have M2 : MiAt y2 y.heap.size ⟨up, li, ep, lg, sd, ac, al⟩ (.slice ad lg.length cap) := by rw [hy2]; constructor <;> simp [go_sem]
  have A2 := A.below kq A.lt
  have B := B.trans (kq.mono B.size)
  clear a0 a1 a2 a3 a4 a5 a6 a7 a8 a9 A hy2 kq gl
  obtain ⟨n0, n1, n2, n3, n4, n5, n6⟩ := M2
  obtain ⟨a0, a1, a2, a3, a4, a5, a6, a7, a8, a9⟩ := A2
  cases up
  · go_wp2
    go_ret
    exact ⟨YN.no (fun q_ => by have q2 := (hQ2.out.1 q_).1; first | cases q2 | exact q2.elim | simp at q2), B⟩
  · by_cases h1 : 0 < li
    · have d1 : decide (li > 0) = true := by simpa using h1
      have d1' : decide (0 < li) = true := by simpa using h1
      replace h1 : Hid _ := h1
      by_cases h2 : li = x.rg.pa
      · have d2 : (li == x.rg.pa) = true := by simpa using h2
        replace h2 : Hid _ := h2
        by_cases h3 : ep = 0
        · have d3 : (ep == 0) = true := by simpa using h3
          replace h3 : Hid _ := h3
          go_wp2
          go_ret
          exact ⟨YN.yes (hQ2.out.2 (by have q1 := h1.out; have q2 := h2.out; have q3 := h3.out; simp_all)), B⟩
        · have d3 : (ep == 0) = false := by simpa using h3
          replace h3 : Hid (¬ ep = 0) := h3
          go_wp2
          go_ret
          exact ⟨YN.no (fun q_ => by have q1 := h3.out; have q2 := (hQ2.out.1 q_).2.2.2; omega), B⟩
      · have d2 : (li == x.rg.pa) = false := by simpa using h2
        replace h2 : Hid (¬ li = x.rg.pa) := h2
        go_wp2
        go_ret
        exact ⟨YN.no (fun q_ => by have q1 := h2.out; have q2 := (hQ2.out.1 q_).2.2.1; omega), B⟩
    · have d1 : decide (li > 0) = false := by simpa using h1
      have d1' : decide (0 < li) = false := by simpa using h1
      replace h1 : Hid (¬ 0 < li) := h1
      go_wp2
      go_ret
      exact ⟨YN.no (fun q_ => by have q1 := h1.out; have q2 := (hQ2.out.1 q_).2.1; omega), B⟩
end Go.Proofs.Ytnpiljegdiconab
namespace Go.Proofs.Ytnpiljegdiconab
open Go.ChangeShapes Go.WideShapes Go.ChangeAt Go.RowKit
open Go.ChangeMaps (open_string shut_string)
set_option linter.unusedVariables false
set_option maxRecDepth 100000

set_option linter.unusedSimpArgs false in
set_option maxHeartbeats 4000000 in
theorem heirS (x : BxD) (w : World) (hJ : BxJ w x) :
    Calls Try.prog 5 #[.agg #[.int .i64 x.id, .int .i64 x.po, .int .i64 x.rg.ep, .int .i64 x.rg.ow, .int .i64 x.rg.pa, .slice x.aT x.two.length x.cT, .slice x.aN x.net.length x.cN, .slice x.aG x.ga.length x.cG, .slice x.aL x.ln.length x.cL, .slice x.aS x.sd.length x.cS]] w fun e w' => YN e (bxOk x.p = true ∧ pairJ x.p) ∧ Below w.heap.size w w' := by
  obtain ⟨Q, hQ⟩ : ∃ Q : Prop, Q = (bxOk x.p = true ∧ pairJ x.p) := ⟨_, rfl⟩
  rw [← hQ]
  replace hQ : Hid _ := hQ
  obtain ⟨y, hy⟩ : ∃ y, y = w.alloc (Obj.cells #[.int .i64 x.id, .int .i64 x.po, .int .i64 x.rg.ep, .int .i64 x.rg.ow, .int .i64 x.rg.pa, .slice x.aT x.two.length x.cT, .slice x.aN x.net.length x.cN, .slice x.aG x.ga.length x.cG, .slice x.aL x.ln.length x.cL, .slice x.aS x.sd.length x.cS] 39) := ⟨_, rfl⟩
  have B : Below w.heap.size w y := by rw [hy]; exact below_new _
  have A : BxAt y w.heap.size x := by rw [hy]; exact BxAt.new w _ x
  have J := hJ.later B
  go_enter Try.func5, Try.ntmps5
  go_upto_region 1 with fail
  rw [← hy]
  clear hy
  have cc := A
  obtain ⟨a0, a1, a2, a3, a4, a5, a6, a7, a8, a9⟩ := cc
  go_wp2_with fail
  go_at_call 14
  clear a0 a1 a2 a3 a4 a5 a6 a7 a8 a9
  refine (boxOkS x y J.v).mono ?_
  rintro e u1 ⟨rfl, kq⟩
  have A := A.below kq A.lt
  have J := J.later kq
  have B := B.trans (kq.mono B.size)
  clear kq
  obtain ⟨ob, hob⟩ : ∃ b, bxOk x.p = b := ⟨_, rfl⟩
  rw [hob]
  cases ob
  · replace hob : Hid _ := hob
    go_wp2
    go_ret
    exact ⟨YN.no (fun q_ => by have h1 := (hQ.out ▸ q_ : bxOk x.p = true ∧ pairJ x.p).1; rw [hob.out] at h1; cases h1), B⟩
  have hb := hob
  have hQ1 : Hid (Q ↔ pairJ x.p) := by unfold Hid; rw [hQ.out]; exact ⟨fun h => h.2, fun h => ⟨hb, h⟩⟩
  clear hQ hob
  obtain ⟨o0, o1⟩ := bxOk_ow hb
  obtain ⟨h2, _⟩ := bxOk_smJ hb
  obtain ⟨k, hk⟩ : ∃ k : Nat, 1 - x.rg.ow = (k : Int) := ⟨(1 - x.rg.ow).toNat, by omega⟩
  have hkl : k < x.two.length := by omega
  have hwr : IntKind.i64.wrap (1 - x.rg.ow) = (k : Int) := by rw [IntKind.wrap_i64]; omega
  obtain ⟨g, off, hat, _⟩ := J.v.t (by omega)
  obtain ⟨m, hm⟩ : ∃ m, x.two.getD k MiD.nil = m := ⟨_, rfl⟩
  have M0 : MdAtO u1 g (off + k * 7) m := by have h1 := J.v.t; rw [hat] at h1; have := mdAtO_of (h1.at_ mdEnc_len MiD.nil hkl); rw [hm] at this; exact this
  have gl : g < u1.heap.size := J.v.t.lt mdEnc_len (by omega) _ hat (by omega)
  have hmo : mOf x.p (1 - x.rg.ow) = m.m := by rw [hk, mOf_p]; simp only [Int.toNat_natCast]; rw [hm]
  have hQ2 : Hid (Q ↔ m.m.up = true ∧ 0 < m.m.li ∧ m.m.li = x.rg.pa ∧ m.m.ep = 0) := by unfold Hid; rw [hQ1.out]; unfold pairJ; show ((mOf x.p (1 - x.rg.ow)).up = true ∧ 0 < (mOf x.p (1 - x.rg.ow)).li ∧ (mOf x.p (1 - x.rg.ow)).li = x.rg.pa ∧ (mOf x.p (1 - x.rg.ow)).ep = 0) ↔ _; rw [hmo]
  clear hQ1 hmo hm hk o0 o1 h2 hb J hJ
  replace hat : Hid _ := hat
  have cc := A
  obtain ⟨a0, a1, a2, a3, a4, a5, a6, a7, a8, a9⟩ := cc
  rw [hat.out] at a5
  obtain ⟨m0, m1, m2, m3, m4, m5, m6⟩ := M0
  go_upto_region 4 with fail
  clear m0 m1 m2 m3 m4 m5 m6 hwr hat
  obtain ⟨⟨up, li, ep, lg, sd, ac, al⟩, ad, cap⟩ := m
  dsimp only at hQ2 ⊢
  obtain ⟨y2, hy2⟩ : ∃ y_, y_ = u1.alloc (Obj.cells #[.bool up, .int .i64 li, .int .i64 ep, .slice ad lg.length cap, .int .i64 sd, .int .i64 ac, .int .i64 al] 49) := ⟨_, rfl⟩
  rw [← hy2]
  have kq : Below u1.heap.size u1 y2 := by rw [hy2]; exact below_new _
  have M2 : MiAt y2 u1.heap.size ⟨up, li, ep, lg, sd, ac, al⟩ (.slice ad lg.length cap) := by rw [hy2]; constructor <;> simp [go_sem]
  have A2 := A.below kq A.lt
  have B := B.trans (kq.mono B.size)
  clear a0 a1 a2 a3 a4 a5 a6 a7 a8 a9 A hy2 kq gl
  obtain ⟨n0, n1, n2, n3, n4, n5, n6⟩ := M2
  obtain ⟨a0, a1, a2, a3, a4, a5, a6, a7, a8, a9⟩ := A2
  cases up
  · go_wp2
    go_ret
    exact ⟨YN.no (fun q_ => by have q2 := (hQ2.out.1 q_).1; first | cases q2 | exact q2.elim | simp at q2), B⟩
  · by_cases h1 : 0 < li
    · have d1 : decide (li > 0) = true := by simpa using h1
      have d1' : decide (0 < li) = true := by simpa using h1
      replace h1 : Hid _ := h1
      by_cases h2 : li = x.rg.pa
      · have d2 : (li == x.rg.pa) = true := by simpa using h2
        replace h2 : Hid _ := h2
        by_cases h3 : ep = 0
        · have d3 : (ep == 0) = true := by simpa using h3
          replace h3 : Hid _ := h3
          go_wp2
          go_ret
          exact ⟨YN.yes (hQ2.out.2 (by have q1 := h1.out; have q2 := h2.out; have q3 := h3.out; simp_all)), B⟩
        · have d3 : (ep == 0) = false := by simpa using h3
          replace h3 : Hid (¬ ep = 0) := h3
          go_wp2
          go_ret
          exact ⟨YN.no (fun q_ => by have q1 := h3.out; have q2 := (hQ2.out.1 q_).2.2.2; omega), B⟩
      · have d2 : (li == x.rg.pa) = false := by simpa using h2
        replace h2 : Hid (¬ li = x.rg.pa) := h2
        go_wp2
        go_ret
        exact ⟨YN.no (fun q_ => by have q1 := h2.out; have q2 := (hQ2.out.1 q_).2.2.1; omega), B⟩
    · have d1 : decide (li > 0) = false := by simpa using h1
      have d1' : decide (0 < li) = false := by simpa using h1
      replace h1 : Hid (¬ 0 < li) := h1
      go_wp2
      go_ret
      exact ⟨YN.no (fun q_ => by have q1 := h1.out; have q2 := (hQ2.out.1 q_).2.1; omega), B⟩

end Go.Proofs.Ytnpiljegdiconab
namespace Go.Proofs.Ytnpiljegdiconab
open Go.ChangeShapes Go.WideShapes Go.ChangeAt Go.RowKit
open Go.ChangeMaps (open_string shut_string)
set_option linter.unusedVariables false
set_option maxRecDepth 100000

theorem numFitsI (n : Int) (w : World) : Calls Try.prog 62 #[.int .i64 n] w fun e w' => e = .returned (.bool (numB n)) ∧ w' = w := by
  obtain ⟨R, hR⟩ : ∃ R, R = numB n := ⟨_, rfl⟩
  rw [← hR]
  replace hR : Hid _ := hR
  by_cases h1 : 0 ≤ n
  · have d1 : decide (0 ≤ n) = true := decide_eq_true h1
    have hN : Hid (R = decide (n ≤ 100000)) := by unfold Hid; rw [hR.out]; unfold numB; by_cases h2 : n ≤ 100000 <;> simp [h1, h2]
    clear hR
    go_enter Try.func62, Try.ntmps62
    go_wp2
    go_ret
    exact ⟨by rw [hN.out]; rfl, rfl⟩
  · have d1 : decide (0 ≤ n) = false := decide_eq_false h1
    have hN : Hid (R = false) := by unfold Hid; rw [hR.out]; unfold numB; simp [h1]
    clear hR
    go_enter Try.func62, Try.ntmps62
    go_wp2
    go_ret
    exact ⟨by rw [hN.out]; rfl, rfl⟩
set_option maxHeartbeats 1000000 in
theorem cloneK (ad : Option Addr) (cap : Nat) (L : List Ik) (w : World) (hv : FView ikEnc w ad L) (hl : L.length ≤ 1048577) :
    Calls Try.prog 84 #[.slice ad L.length cap] w fun e w' => ∃ ad' cap', e = .returned (.slice ad' L.length cap') ∧ FOwn ikEnc 8 78 w.heap.size w' (.slice ad' L.length cap') L ∧ Below w.heap.size w w' := by
  obtain ⟨i1, hj, hy0, hy1, hy2⟩ := info_parts ikInfo
  cases ad with
  | none =>
    obtain rfl := hv.none_nil
    have hEq : ∀ (y : World) (c : Nat), (binOp .eql 36 (.slice none 0 c) (.slice none 0 0)).run Try.prog y = .ok (.bool true) y := fun y c => Go.Lib.run_eql_slice_nil y 36 78 none 0 c 0 0 Try.underlying36
    simp only [List.length_nil]
    go_enter Try.func84, Try.ntmps84
    go_wp2
    go_ret
    exact ⟨_, _, rfl, FOwn.nil, Below.refl _ _⟩
  | some a =>
    have hB := hv.lt ikEnc_len (by omega)
    have B0 := below_new (w := w) (Obj.cells #[] 78)
    have hv1 : FView ikEnc (w.alloc (Obj.cells #[] 78)) (some a) L := hv.below B0 hB
    have hEq : ∀ (y : World), (binOp .eql 36 (.slice (some a) L.length cap) (.slice none 0 0)).run Try.prog y = .ok (.bool false) y := fun y => Go.Lib.run_eql_slice_nil y 36 78 (some a) L.length cap 0 0 Try.underlying36
    go_enter Try.func84, Try.ntmps84
    go_wp2_with (first | (at_builtin; refine fappL ikEnc_len ikEnc_ones rfl _ _ 36 rfl w.heap.size 78 i1 (.agg #[.int .i64 0, .int .i64 0, .int .i64 0, .int .i64 0, .int .i64 0, .int .i64 0, .int .i64 0, .bool false]) 64 Try.underlying36 hj hy0 hy1 hy2 rfl (by decide) (by decide) _ ([] : List Ik) rfl (FOwn.empty w) (some a) cap L rfl (fun e => by cases e) hv1 ?z0 ?z1 ?_) | go_in)
    case z0 => simp; omega
    case z1 => simp
    intro vZ wZ hownZ hgrowZ _
    have BZ : Below w.heap.size w wZ := B0.grown hgrowZ (by simp) (fun j e => ((FOwn.empty w : FOwn ikEnc 8 78 _ _ _ _).lt j e).1)
    replace hownZ : FOwn ikEnc 8 78 w.heap.size wZ vZ L := hownZ
    obtain ⟨adZ, capZ, rfl⟩ := hownZ.open_
    clear hgrowZ B0 hv1
    go_wp2
    go_ret
    exact ⟨_, _, rfl, hownZ, BZ⟩
set_option maxHeartbeats 1000000 in
theorem jourI (ad : Option Addr) (cap : Nat) (L : List Ik) (w : World) (hv : FView ikEnc w ad L) (hl : L.length ≤ 1048577) :
    Calls Try.prog 77 #[.slice ad L.length cap] w fun e w' => ∃ a c, e = .returned (.agg #[.slice a L.length c]) ∧ FOwn ikEnc 8 78 w.heap.size w' (.slice a L.length c) L ∧ Below w.heap.size w w' := by
  have hB := hv.lt ikEnc_len (by omega)
  obtain ⟨y, hy⟩ : ∃ y, y = w.alloc (Obj.cells #[.slice none 0 0] 127) := ⟨_, rfl⟩
  have B0 : Below w.heap.size w y := by rw [hy]; exact below_new _
  have c0 : y.cell? ⟨w.heap.size, 0, none⟩ = some (.slice none 0 0) := by rw [hy]; simp [go_sem]
  have f0 : y.frozen? ⟨w.heap.size, 0, none⟩ = false := by rw [hy]; simp [go_sem]
  have S0 := World.block_lt_of_cell? _ _ c0
  go_enter Try.func77, Try.ntmps77
  go_wp2_with fail
  go_at_call 84
  rw [← hy]
  clear hy
  refine (cloneK ad cap L y (hv.below B0 hB) hl).mono ?_
  rintro e w1 ⟨a1, c1, rfl, O1, k1⟩
  have B1 := B0.trans (k1.mono B0.size)
  have c0 := (World.cell?_of_block (a := ⟨w.heap.size, 0, none⟩) (k1.block _ S0)).trans c0
  have f0 := (World.frozen?_of_block (a := ⟨w.heap.size, 0, none⟩) (k1.block _ S0)).trans f0
  have hne : ∀ g, (Value.slice a1 L.length c1).ownBlock = some g → g ≠ w.heap.size := fun g e => by have := (O1.lt g e).1; omega
  have O2 : FOwn ikEnc 8 78 w.heap.size (w1.setCell ⟨w.heap.size, 0, none⟩ (.slice a1 L.length c1)) (.slice a1 L.length c1) L := (O1.base B0.size).keep fun g e => Below.heap_setCell _ _ _ _ (hne g e)
  have B2 := B1.setCell (p := ⟨w.heap.size, 0, none⟩) (Nat.le_refl _) (.slice a1 L.length c1)
  clear k1 B0 hv hB O1 B1 hne
  go_wp2
  refine bodyPost_ret (v := .agg #[.slice a1 L.length c1]) (by simp [results, Try.results77, go_sem, *]) rfl ⟨_, _, rfl, O2, B2⟩
set_option maxHeartbeats 2000000 in
theorem mindOf (m : Mi) (ad : Option Addr) (cap : Nat) (w : World) (hv : FView ikEnc w ad m.lg) (hl : m.lg.length ≤ 1048577) :
    Calls Try.prog 71 #[.agg #[.bool m.up, .int .i64 m.li, .int .i64 m.ep, .slice ad m.lg.length cap, .int .i64 m.sd, .int .i64 m.ac, .int .i64 m.al]] w fun e w' => ∃ q a c, e = .returned (.pointer (some ⟨q, 0, none⟩)) ∧ MgBox w' q m (.slice a m.lg.length c) ∧ FOwn ikEnc 8 78 w.heap.size w' (.slice a m.lg.length c) m.lg ∧ (∀ g, (Value.slice a m.lg.length c).ownBlock = some g → g < q) ∧ w.heap.size < q ∧ Below w.heap.size w w' := by
  have hB := hv.lt ikEnc_len (by omega)
  obtain ⟨y, hy⟩ : ∃ y, y = w.alloc (Obj.cells #[.bool m.up, .int .i64 m.li, .int .i64 m.ep, .slice ad m.lg.length cap, .int .i64 m.sd, .int .i64 m.ac, .int .i64 m.al] 49) := ⟨_, rfl⟩
  have B0 : Below w.heap.size w y := by rw [hy]; exact below_new _
  have A : MiAt y w.heap.size m (.slice ad m.lg.length cap) := by rw [hy]; exact MiAt.new w _ _ _
  have S0 := A.lt
  have hv1 := hv.below B0 hB
  go_enter Try.func71, Try.ntmps71
  go_upto_region 1 with fail
  rw [← hy]
  clear hy
  refine wp_region_held (S := fun Y => Below y.heap.size y Y) (by kernel_rfl) ?_
  change wpAnyH _ _ _ _ _ _ _ _ (World.drew _)
  have hb0 : Below y.heap.size y y.drew := (Below.refl _ _).drew
  obtain ⟨u0, hy0⟩ : ∃ y_, y_ = y.drew := ⟨_, rfl⟩
  rw [← hy0] at hb0 ⊢
  clear hy0
  refine takeW 0 3 (.pointer (some ⟨w.heap.size, 3, none⟩)) rfl rfl (by kernel_rfl) (by kernel_rfl) (by kernel_rfl) (fun _ _ _ h => h) (by kernel_rfl) (by (intro w hSw; go_simp)) (by assumption) ?_
  simp only [List.set_cons_zero, List.set_cons_succ]
  refine takeW 1 4 (.slice ad m.lg.length cap) rfl rfl (by kernel_rfl) (by kernel_rfl) (by kernel_rfl) (fun _ _ _ h => h) (by kernel_rfl) (by (intro Y hSw; obtain ⟨X0, X1, X2, X3, X4, X5, X6⟩ := A.below hSw (by omega); go_simp)) (by assumption) ?_
  simp only [List.set_cons_zero, List.set_cons_succ]
  refine takeW 3 6 (.pointer (some ⟨w.heap.size, 0, none⟩)) rfl rfl (by kernel_rfl) (by kernel_rfl) (by kernel_rfl) (fun _ _ _ h => h) (by kernel_rfl) (by (intro w hSw; go_simp)) (by assumption) ?_
  simp only [List.set_cons_zero, List.set_cons_succ]
  refine takeW 4 7 (.bool m.up) rfl rfl (by kernel_rfl) (by kernel_rfl) (by kernel_rfl) (fun _ _ _ h => h) (by kernel_rfl) (by (intro Y hSw; obtain ⟨X0, X1, X2, X3, X4, X5, X6⟩ := A.below hSw (by omega); go_simp)) (by assumption) ?_
  simp only [List.set_cons_zero, List.set_cons_succ]
  refine takeW 5 8 (.pointer (some ⟨w.heap.size, 1, none⟩)) rfl rfl (by kernel_rfl) (by kernel_rfl) (by kernel_rfl) (fun _ _ _ h => h) (by kernel_rfl) (by (intro w hSw; go_simp)) (by assumption) ?_
  simp only [List.set_cons_zero, List.set_cons_succ]
  refine takeW 6 9 (.int .i64 m.li) rfl rfl (by kernel_rfl) (by kernel_rfl) (by kernel_rfl) (fun _ _ _ h => h) (by kernel_rfl) (by (intro Y hSw; obtain ⟨X0, X1, X2, X3, X4, X5, X6⟩ := A.below hSw (by omega); go_simp)) (by assumption) ?_
  simp only [List.set_cons_zero, List.set_cons_succ]
  refine takeW 7 10 (.pointer (some ⟨w.heap.size, 2, none⟩)) rfl rfl (by kernel_rfl) (by kernel_rfl) (by kernel_rfl) (fun _ _ _ h => h) (by kernel_rfl) (by (intro w hSw; go_simp)) (by assumption) ?_
  simp only [List.set_cons_zero, List.set_cons_succ]
  refine takeW 8 11 (.int .i64 m.ep) rfl rfl (by kernel_rfl) (by kernel_rfl) (by kernel_rfl) (fun _ _ _ h => h) (by kernel_rfl) (by (intro Y hSw; obtain ⟨X0, X1, X2, X3, X4, X5, X6⟩ := A.below hSw (by omega); go_simp)) (by assumption) ?_
  simp only [List.set_cons_zero, List.set_cons_succ]
  refine takeW 9 12 (.pointer (some ⟨w.heap.size, 4, none⟩)) rfl rfl (by kernel_rfl) (by kernel_rfl) (by kernel_rfl) (fun _ _ _ h => h) (by kernel_rfl) (by (intro w hSw; go_simp)) (by assumption) ?_
  simp only [List.set_cons_zero, List.set_cons_succ]
  refine takeW 10 13 (.int .i64 m.sd) rfl rfl (by kernel_rfl) (by kernel_rfl) (by kernel_rfl) (fun _ _ _ h => h) (by kernel_rfl) (by (intro Y hSw; obtain ⟨X0, X1, X2, X3, X4, X5, X6⟩ := A.below hSw (by omega); go_simp)) (by assumption) ?_
  simp only [List.set_cons_zero, List.set_cons_succ]
  refine takeW 11 14 (.pointer (some ⟨w.heap.size, 5, none⟩)) rfl rfl (by kernel_rfl) (by kernel_rfl) (by kernel_rfl) (fun _ _ _ h => h) (by kernel_rfl) (by (intro w hSw; go_simp)) (by assumption) ?_
  simp only [List.set_cons_zero, List.set_cons_succ]
  refine takeW 12 15 (.int .i64 m.ac) rfl rfl (by kernel_rfl) (by kernel_rfl) (by kernel_rfl) (fun _ _ _ h => h) (by kernel_rfl) (by (intro Y hSw; obtain ⟨X0, X1, X2, X3, X4, X5, X6⟩ := A.below hSw (by omega); go_simp)) (by assumption) ?_
  simp only [List.set_cons_zero, List.set_cons_succ]
  refine takeW 13 16 (.pointer (some ⟨w.heap.size, 6, none⟩)) rfl rfl (by kernel_rfl) (by kernel_rfl) (by kernel_rfl) (fun _ _ _ h => h) (by kernel_rfl) (by (intro w hSw; go_simp)) (by assumption) ?_
  simp only [List.set_cons_zero, List.set_cons_succ]
  refine takeW 14 17 (.int .i64 m.al) rfl rfl (by kernel_rfl) (by kernel_rfl) (by kernel_rfl) (fun _ _ _ h => h) (by kernel_rfl) (by (intro Y hSw; obtain ⟨X0, X1, X2, X3, X4, X5, X6⟩ := A.below hSw (by omega); go_simp)) (by assumption) ?_
  simp only [List.set_cons_zero, List.set_cons_succ]
  refine takeW 15 18 (.agg #[.bool m.up, .int .i64 m.li, .int .i64 m.ep, .int .i64 m.sd, .int .i64 m.ac, .int .i64 m.al]) rfl rfl (by kernel_rfl) (by kernel_rfl) (by kernel_rfl) (fun _ _ _ h => h) (by kernel_rfl) (by (intro w hSw; go_simp)) (by assumption) ?_
  simp only [List.set_cons_zero, List.set_cons_succ]
  refine wpAnyH_all (rs := [2]) (by kernel_rfl) (by simp) ?_
  intro i hi; obtain rfl : i = 2 := by simpa using hi
  refine wpOp_step rfl (fun Kz hKz => ?_)
  rw [if_pos (by kernel_rfl)]
  go_simp
  go_at_call 77
  refine (jourI ad cap m.lg u0 (hv1.below hb0 (hv1.lt ikEnc_len (by omega))) hl).mono ?_
  rintro e u1 ⟨a1, c1, rfl, O1, kq⟩
  have hb1 : Below y.heap.size y u1 := hb0.trans (kq.mono hb0.size)
  clear kq
  refine hKz _ _ ⟨hb1, ?_⟩
  clear hKz Kz hi
  refine takeW 16 19 (.agg #[.slice a1 m.lg.length c1, .bool m.up, .int .i64 m.li, .int .i64 m.ep, .int .i64 m.sd, .int .i64 m.ac, .int .i64 m.al]) rfl rfl (by kernel_rfl) (by kernel_rfl) (by kernel_rfl) (fun _ _ _ h => h) (by kernel_rfl) (by (intro w hSw; go_simp)) (by assumption) ?_
  simp only [List.set_cons_zero, List.set_cons_succ]
  refine wpAnyH_all (rs := [17]) (by kernel_rfl) (by simp) ?_
  intro i hi; obtain rfl : i = 17 := by simpa using hi
  refine wpOp_step rfl (fun Kz hKz => ?_)
  rw [if_pos (by kernel_rfl)]
  go_simp
  obtain ⟨u2, hu⟩ : ∃ u, u = u1.alloc (Obj.cells #[.slice a1 m.lg.length c1, .bool m.up, .int .i64 m.li, .int .i64 m.ep, .int .i64 m.sd, .int .i64 m.ac, .int .i64 m.al] 132) := ⟨_, rfl⟩
  have kq : Below u1.heap.size u1 u2 := by rw [hu]; exact below_new _
  have M2 : MgBox u2 u1.heap.size m (.slice a1 m.lg.length c1) := by rw [hu]; exact MgBox.new u1 _ _ _
  have hb2 : Below y.heap.size y u2 := hb1.trans (kq.mono hb1.size)
  have O2 := O1.later kq
  have lo := O1.lt
  have hb1s := hb1.size
  obtain ⟨q, hq⟩ : ∃ q, q = u1.heap.size := ⟨_, rfl⟩
  rw [← hq] at M2 lo hb1s ⊢
  rw [← hu]
  clear hu kq hq
  refine hKz _ _ ⟨hb2, ?_⟩
  clear hKz Kz hi
  refine takeW 18 2 (.pointer (some ⟨q, 0, none⟩)) rfl rfl (by kernel_rfl) (by kernel_rfl) (by kernel_rfl) (fun _ _ _ h => h) (by kernel_rfl) (by (intro w hSw; go_simp)) (by assumption) ?_
  simp only [List.set_cons_zero, List.set_cons_succ]
  refine wpAnyH_done (by kernel_rfl) ?_ _
  have hO := O1.lt
  go_wp2
  go_ret
  exact ⟨q, a1, c1, rfl, M2, O2.base (Nat.le_trans B0.size hb0.size), fun g e => (lo g e).2, by omega, B0.trans (hb2.mono B0.size)⟩

end Go.Proofs.Ytnpiljegdiconab
