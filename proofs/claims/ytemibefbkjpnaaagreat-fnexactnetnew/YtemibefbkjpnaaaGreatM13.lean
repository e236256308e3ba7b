/- What NetNew answers. impl.NetNew, walked. Lists of links, marked. Nets, marked. -/
import Derived.Test.YtemibefbkjpnaaaGreatRows
import Derived.WalkKit
import Derived.ProofKit
import Derived.OpenShut
import Derived.ShutString
import Derived.ChangeOld
import Derived.Below
import Derived.Deep.QuietTactic
import Derived.BigQuiet
import Derived.WalkSmall
import Derived.Laws.OwnMore
import Derived.WalkSpells
import Derived.WalkLawsBesides
import Derived.Deep.Cut
import Derived.Maps.AppendAt
import Derived.Laws.StructEq
import Derived.Test.YtemibefbkjpnaaaGreatM12
import Derived.Test.YtemibefbkjpnaaaGreatM2
import Derived.Test.YtemibefbkjpnaaaGreatM4
import Derived.Test.YtemibefbkjpnaaaGreatM11
namespace Go.Proofs.YtemibefbkjpnaaaGreat
open Go.ChangeShapes Go.WideShapes Go.ChangeAt Go.RowKit
open Go.ChangeMaps (open_string shut_string)
set_option linter.unusedVariables false
set_option maxRecDepth 100000

/-- What NetNew answers. -/
structure NewOut (ids : List Int) (K : List Lk) (ok : Bool) (Cs : List Bd) (KL : List Lk) : Prop where
  yn : ok = true ↔ NewP ids K
  yes : ok = true → dB Cs = netN ids (ofK K) ids.length ∧ KL = K
  no : ok = false → Cs = [] ∧ KL = []
def NewRet (ids : List Int) (K : List Lk) (w : World) (e : Ending) (w' : World) : Prop :=
  ∃ adB cB Cs adL cL KL ok mid, e = .returned (.tuple #[.agg #[.slice adB (List.length Cs) cB, .slice adL (List.length KL) cL], .bool ok]) ∧ NewOut ids K ok Cs KL ∧ NetOwn w.heap.size mid w'.heap.size w' (.slice adB Cs.length cB) Cs (.slice adL KL.length cL) KL ∧ Below w.heap.size w w'
theorem NewRet.no {ids : List Int} {K : List Lk} {w w' : World} (h : ¬ NewP ids K) (b : Below w.heap.size w w') : NewRet ids K w (.returned (.tuple #[.agg #[.slice none 0 0, .slice none 0 0], .bool false])) w' :=
  ⟨none, 0, [], none, 0, [], false, w.heap.size, rfl, ⟨⟨fun q => (by cases q), fun q => absurd q h⟩, fun q => (by cases q), fun _ => ⟨rfl, rfl⟩⟩, ⟨NOwn.nil, FOwn.nil, fun g e => by simp [Value.ownBlock] at e, Nat.le_refl _, b.size, Nat.le_refl _⟩, b⟩
theorem NewRet.yes {ids : List Int} {K : List Lk} {w w' : World} {adB : Option Addr} {cB : Nat} {Cs : List Bd} {adL : Option Addr} {cL mid : Nat} (h : NewP ids K) (d : dB Cs = netN ids (ofK K) ids.length) (o : NetOwn w.heap.size mid w'.heap.size w' (.slice adB Cs.length cB) Cs (.slice adL K.length cL) K) (b : Below w.heap.size w w') : NewRet ids K w (.returned (.tuple #[.agg #[.slice adB Cs.length cB, .slice adL K.length cL], .bool true])) w' :=
  ⟨adB, cB, Cs, adL, cL, K, true, mid, rfl, ⟨⟨fun _ => h, fun _ => rfl⟩, fun _ => ⟨d, rfl⟩, fun q => (by cases q)⟩, o, b⟩
/-- A box of two cells that may be written. -/
structure NeBox (w : World) (q : Nat) (v0 v1 : Value) : Prop where
  at_ : NeAt w q v0 v1
  fr : ∀ i, w.frozen? ⟨q, i, none⟩ = false
theorem NeBox.keep {w w' : World} {q : Nat} {v0 v1 : Value} (h : NeBox w q v0 v1) (k : w'.heap[q]? = w.heap[q]?) : NeBox w' q v0 v1 :=
  ⟨h.at_.keep k, fun i => (World.frozen?_of_block (a := ⟨q, i, none⟩) k).trans (h.fr i)⟩
theorem NeBox.lt {w : World} {q : Nat} {v0 v1 : Value} (h : NeBox w q v0 v1) : q < w.heap.size := h.at_.lt
theorem NeBox.below {w w' : World} {q n : Nat} {v0 v1 : Value} (h : NeBox w q v0 v1) (k : Below n w w') (hq : q < n) : NeBox w' q v0 v1 := h.keep (k.block q hq)
theorem NeBox.later {w w' : World} {q : Nat} {v0 v1 : Value} (h : NeBox w q v0 v1) (k : Below w.heap.size w w') : NeBox w' q v0 v1 := h.below k h.lt
theorem NeBox.new (w : World) (t : TypeId) {v0 v1 : Value} : NeBox (w.alloc (Obj.cells #[v0, v1] t)) w.heap.size v0 v1 := ⟨NeAt.new w t, fun i => by simp [go_sem]⟩
theorem NeBox.put0 {w : World} {q : Nat} {v0 v1 : Value} (h : NeBox w q v0 v1) (v : Value) : NeBox (w.setCell ⟨q, 0, none⟩ v) q v v1 :=
  ⟨⟨pset_same h.at_.c0, (pset_else (by decide)).trans h.at_.c1⟩, fun i => by rw [World.frozen?_setCell]; exact h.fr i⟩
theorem NeBox.put {w : World} {q : Nat} {v0 v1 : Value} (h : NeBox w q v0 v1) (u v : Value) : NeBox ((w.setCell ⟨q, 0, none⟩ u).setCell ⟨q, 1, none⟩ v) q u v := by
  have e1 : (w.setCell ⟨q, 0, none⟩ u).cell? ⟨q, 1, none⟩ = some v1 := (pset_else (by decide)).trans h.at_.c1
  refine ⟨⟨(pset_else (by decide)).trans (pset_same h.at_.c0), pset_same e1⟩, fun i => ?_⟩
  rw [World.frozen?_setCell, World.frozen?_setCell]; exact h.fr i

end Go.Proofs.YtemibefbkjpnaaaGreat
namespace Go.Proofs.YtemibefbkjpnaaaGreat
open Go.ChangeShapes Go.WideShapes Go.ChangeAt Go.RowKit
open Go.ChangeMaps (open_string shut_string)
set_option linter.unusedVariables false
set_option maxRecDepth 100000

theorem FView.oneB (w : World) (t : TypeId) (x : Bd) : FView bdEnc (w.alloc (Obj.cells #[.int .i64 x.id, .slice x.ad x.L.length x.cap] t)) (some ⟨w.heap.size, 0, none⟩) [x] := fun _ => ⟨w.heap.size, 0, rfl, fun j v hv => by
    have hj : j < 2 := by
      have := (List.getElem?_eq_some_iff.1 hv).1
      simpa [fcells, bdEnc] using this
    rcases (by omega : j = 0 ∨ j = 1) with rfl | rfl
    · cases hv; simp [go_sem]
    · cases hv; simp [go_sem]⟩
/-- The state of impl.NetNew: its answer's box, its net's box, what the net holds. -/
structure NewSt (R M : Nat) (ids : List Int) (T : Nat → Nat → Bool) (n : Nat) (K : List Lk) (adL : Option Addr) (cL : Nat) (w wr : World) (adB : Option Addr) (cB : Nat) (Cs : List Bd) : Prop where
  rb : NeBox wr R (.slice none 0 0) (.slice none 0 0)
  nb : NeBox wr M (.slice adB Cs.length cB) (.slice adL K.length cL)
  own : NOwn (M + 1) wr.heap.size wr (.slice adB Cs.length cB) Cs
  d : dB Cs = netN ids T n
  kown : FOwn lkEnc 4 34 R wr (.slice adL K.length cL) K
  khi : ∀ g, (Value.slice adL K.length cL).ownBlock = some g → g < M
  rm : R < M
  bel : Below R w wr
theorem NewSt.later {R M : Nat} {ids : List Int} {T : Nat → Nat → Bool} {n : Nat} {K : List Lk} {adL : Option Addr} {cL : Nat} {w wr w2 : World} {adB : Option Addr} {cB : Nat} {Cs : List Bd} (h : NewSt R M ids T n K adL cL w wr adB cB Cs) (k : Below wr.heap.size wr w2) : NewSt R M ids T n K adL cL w w2 adB cB Cs :=
  ⟨h.rb.later k, h.nb.later k, (h.own.below k (Nat.le_refl _)).wide (Nat.le_refl _) k.size, h.d, h.kown.later k, h.khi, h.rm, h.bel.trans (k.mono (Nat.le_of_lt (Nat.lt_trans h.rm h.nb.lt)))⟩
theorem NewSt.len {R M : Nat} {ids : List Int} {T : Nat → Nat → Bool} {n : Nat} {K : List Lk} {adL : Option Addr} {cL : Nat} {w wr : World} {adB : Option Addr} {cB : Nat} {Cs : List Bd} (h : NewSt R M ids T n K adL cL w wr adB cB Cs) : Cs.length = n := by
  have := congrArg List.length h.d
  rw [netN_len] at this
  simpa [dB] using this
theorem NewSt.ls {R M : Nat} {ids : List Int} {T : Nat → Nat → Bool} {n : Nat} {K : List Lk} {adL : Option Addr} {cL : Nat} {w wr : World} {adB : Option Addr} {cB : Nat} {Cs : List Bd} (h : NewSt R M ids T n K adL cL w wr adB cB Cs) : ∀ i, i < Cs.length → (Cs.getD i Bd.nil).L.length ≤ 4 := by
  intro i hi
  have hl := h.len
  have := congrArg (fun D => D.getD i Bg.nil) h.d
  simp only [bd_get] at this
  rw [netN_get _ _ (by omega)] at this
  have e : (Cs.getD i Bd.nil).L = (newBg (ids.getD i 0) (T i)).L := congrArg Bg.L this
  rw [e]
  exact newBg_len _ _
theorem NewSt.nn {R M : Nat} {ids : List Int} {T : Nat → Nat → Bool} {n : Nat} {K : List Lk} {adL : Option Addr} {cL : Nat} {w wr : World} {adB : Option Addr} {cB : Nat} {Cs : List Bd} (h : NewSt R M ids T n K adL cL w wr adB cB Cs) (hn : n ≤ 1048576) (hk : K.length ≤ 1048576) : NN wr adB Cs adL K :=
  ⟨h.own.view.2, h.kown.view.2, by rw [h.len]; exact hn, fun i hi => Nat.le_trans (h.ls i hi) (by decide), hk⟩
/-- One bridge more. -/
theorem NewSt.push {R M : Nat} {ids : List Int} {T : Nat → Nat → Bool} {n : Nat} {K : List Lk} {adL : Option Addr} {cL : Nat} {w wr z wZ : World} {adB adZ : Option Addr} {cB cZ : Nat} {Cs : List Bd} {x : Bd} (h : NewSt R M ids T n K adL cL w wr adB cB Cs) (kz : Below wr.heap.size wr z)
    (nx : FOwn ptEnc 11 75 wr.heap.size z x.v x.L) (hx : x.d = newBg (ids.getD n 0) (T n))
    (row : FOwn bdEnc 2 40 (M + 1) wZ (.slice adZ (Cs ++ [x]).length cZ) (Cs ++ [x])) (gr : z.grownBy wZ (Value.slice adB Cs.length cB).ownBlock) (hv : (Value.slice adZ (Cs ++ [x]).length cZ).ownBlock = (Value.slice adB Cs.length cB).ownBlock ∨ (Value.slice adZ (Cs ++ [x]).length cZ).ownBlock = some z.heap.size) :
    NewSt R M ids T (n + 1) K adL cL w (wZ.setCell ⟨M, 0, none⟩ (.slice adZ (Cs ++ [x]).length cZ)) adZ cZ (Cs ++ [x]) := by
  have h' := h.later kz
  have hM := h'.nb.lt
  have hM0 := h.nb.lt
  have hR := h.rm
  have sz := kz.size
  have gz := gr.size
  have hb : ∀ g, (Value.slice adB Cs.length cB).ownBlock = some g → M + 1 ≤ g := fun g e => (h.own.row.lt g e).1
  have kb : ∀ j, j < M + 1 → wZ.heap[j]? = z.heap[j]? := fun j hj => gr.block j (by omega) (fun e => by have := hb j e.symm; omega)
  have O := (h.own.below kz (Nat.le_refl _)).push (x := x) sz row gr (by
    rcases hv with q | q
    · exact .inl q
    · exact .inr ⟨_, q, Nat.le_refl _⟩) (nx.base (by omega)) (fun g e => nx.lt g e)
  have sb : ∀ j, j ≠ M → (wZ.setCell ⟨M, 0, none⟩ (.slice adZ (Cs ++ [x]).length cZ)).heap[j]? = wZ.heap[j]? := fun j hj => Below.heap_setCell _ _ _ _ hj
  have ss : (wZ.setCell ⟨M, 0, none⟩ (.slice adZ (Cs ++ [x]).length cZ)).heap.size = wZ.heap.size := by simp
  refine ⟨(h'.rb.keep (kb R (by omega))).keep (sb R (by omega)), (h'.nb.keep (kb M (by omega))).put0 _, ?_, ?_, ?_, h.khi, h.rm, ?_⟩
  · rw [ss]
    exact O.keep (fun g hg _ => sb g (by omega))
  · unfold dB
    rw [List.map_append, netN_succ]
    have := h.d
    unfold dB at this
    rw [this]
    simp [hx]
  · exact (h'.kown.keep (fun g e => kb g (by have := h.khi g e; omega))).keep (fun g e => sb g (by have := h.khi g e; omega))
  · exact ((h'.bel.grown gr (by omega) (fun g e => by have := hb g e; omega))).setCell (by show R ≤ M; omega) _
theorem NewSt.raised {R M : Nat} {ids : List Int} {T : Nat → Nat → Bool} {n : Nat} {K : List Lk} {adL : Option Addr} {cL : Nat} {w z z' : World} {adB : Option Addr} {cB : Nat} {Cs Ds : List Bd} {a p : Int} (h : NewSt R M ids T n K adL cL w z adB cB Cs)
    (hl : Ds.length = Cs.length) (ho : NOwn (M + 1) z'.heap.size z' (.slice adB Ds.length cB) Ds)
    (hc : (¬ PortP (dB Cs) a p ∧ dB Ds = dB Cs) ∨ (∃ i j : Nat, a = i ∧ p = j ∧ i < (dB Cs).length ∧ j < ((dB Cs).getD i Bg.nil).L.length ∧ dB Ds = (dB Cs).set i ⟨((dB Cs).getD i Bg.nil).id, reactL ((dB Cs).getD i Bg.nil).id ((dB Cs).getD i Bg.nil).L (linkIk (j : Int))⟩))
    (gr : z.grownBy z' (Value.slice adB Cs.length cB).ownBlock) : NewSt R M ids (lift T a p) n K adL cL w z' adB cB Ds := by
  have hM := h.nb.lt
  have hR := h.rm
  have hb : ∀ g, (Value.slice adB Cs.length cB).ownBlock = some g → M + 1 ≤ g := fun g e => (h.own.row.lt g e).1
  have kb : ∀ j, j < M + 1 → z'.heap[j]? = z.heap[j]? := fun j hj => gr.block j (by omega) (fun e => by have := hb j e.symm; omega)
  refine ⟨h.rb.keep (kb R (by omega)), ?_, ho, ?_, h.kown.keep (fun g e => kb g (by have := h.khi g e; omega)), h.khi, h.rm, h.bel.grown gr (by omega) (fun g e => by have := hb g e; omega)⟩
  · rw [hl]
    exact h.nb.keep (kb M (by omega))
  · rcases hc with ⟨q, e⟩ | ⟨i, j, rfl, rfl, q1, q2, e⟩
    · rw [e]
      rw [h.d] at q ⊢
      exact (lift_no q).symm
    · rw [e]
      rw [h.d] at q1 q2 ⊢
      rw [netN_len] at q1
      exact lift_yes q1 q2
theorem NewSt.retag {R M : Nat} {ids : List Int} {T U : Nat → Nat → Bool} {n : Nat} {K : List Lk} {adL : Option Addr} {cL : Nat} {w z : World} {adB : Option Addr} {cB : Nat} {Cs : List Bd} (h : NewSt R M ids T n K adL cL w z adB cB Cs) (e : ∀ i x, T i x = U i x) : NewSt R M ids U n K adL cL w z adB cB Cs :=
  ⟨h.rb, h.nb, h.own, h.d.trans (netN_congr fun i x _ _ => e i x), h.kown, h.khi, h.rm, h.bel⟩
set_option maxHeartbeats 16000000 in
theorem newNI (adI : Option Addr) (cI : Nat) (ids : List Int) (adK : Option Addr) (capK : Nat) (K : List Lk) (w : World) (hv : ViewI w adI ids.length (fun i => ids.getD i 0)) (hvB : ∀ a, adI = some a → 0 < ids.length → a.block < w.heap.size) (vk : FView lkEnc w adK K) (hl : ids.length ≤ 1048576) (hk : K.length ≤ 1048576) :
    Calls Tryz.prog 19 #[.slice adI ids.length cI, .slice adK K.length capK] w fun e w' => NewRet ids K w e w' := by
  have hkB := vk.lt lkEnc_len (by omega)
  obtain ⟨i0, hi, hz0, hz1, hz2⟩ := info_parts brInfo2
  by_cases h5 : ids.length ≤ 5
  rotate_left
  · have d1 : decide ((5 : Int) < (ids.length : Int)) = true := decide_eq_true (by omega)
    have d2 : (5 : Int) < (ids.length : Int) := by omega
    have hno : Hid (¬ NewP ids K) := fun h => h5 h.1
    clear hv vk h5
    go_enter Tryz.func19, Tryz.ntmps19
    go_wp2
    refine bodyPost_ret (v := .tuple #[.agg #[.slice none 0 0, .slice none 0 0], .bool false]) (by simp [results, Tryz.results19, go_sem]) rfl ?_
    exact NewRet.no hno.out (by exact below_new _)
  have d1 : decide ((5 : Int) < (ids.length : Int)) = false := decide_eq_false (by omega)
  have d2 : ¬ (5 : Int) < (ids.length : Int) := by omega
  obtain ⟨y, hy⟩ : ∃ y, y = w.alloc (Obj.cells #[.slice none 0 0, .slice none 0 0] 27) := ⟨_, rfl⟩
  have B0 : Below w.heap.size w y := by rw [hy]; exact below_new _
  have A0 : NeBox y w.heap.size (.slice none 0 0) (.slice none 0 0) := by rw [hy]; exact NeBox.new w _
  go_enter Tryz.func19, Tryz.ntmps19
  go_wp2_with fail
  go_at_call 61
  rw [← hy]
  clear hy d1 d2
  refine (cloneL adK capK K y (vk.below B0 hkB) hk).mono ?_
  rintro e w1 ⟨adL, cL, rfl, OL, k1⟩
  have B1 := B0.trans (k1.mono B0.size)
  have A1 := A0.later k1
  have l0 := A0.lt
  obtain ⟨M, hM⟩ : ∃ M, M = w1.heap.size := ⟨_, rfl⟩
  obtain ⟨x0, hx0⟩ : ∃ x, x = w1.alloc (Obj.cells #[.slice none 0 0, (.slice adL K.length cL)] 27) := ⟨_, rfl⟩
  have kx : Below w1.heap.size w1 x0 := by rw [hx0]; exact below_new _
  have hw1 : w.heap.size < w1.heap.size := by have := k1.size; omega
  have St : NewSt w.heap.size M ids (fun _ _ => false) 0 K adL cL w x0 none 0 [] := by
    refine ⟨A1.later kx, ?_, NOwn.nil, rfl, (OL.base (by omega)).later kx, fun g e => by rw [hM]; exact (OL.lt g e).2, by omega, B1.trans (kx.mono (by omega))⟩
    rw [hM, hx0]
    exact NeBox.new w1 _
  go_upto_region 4 with fail
  rw [← hx0, ← hM]
  have hKl : ∀ g, (Value.slice adL K.length cL).ownBlock = some g → w.heap.size < g := fun g e => by have := (OL.lt g e).1; omega
  clear hx0 kx A0 A1 B0 OL k1 hw1 l0
  replace hM : Hid _ := hM
  go_wp2
  go_loopw [24] (fun q wr => ∃ (k : Nat) (adB : Option Addr) (cB : Nat) (Cs : List Bd), k ≤ ids.length ∧ q = .int .i64 k ∧ NewSt w.heap.size M ids (fun _ _ => false) k K adL cL w wr adB cB Cs) (fun q _ => ids.length - (intOf q).toNat)
  case atStart => exact ⟨0, _, _, _, Nat.zero_le _, rfl, St⟩
  case round =>
    clear St
    obtain ⟨k, adB, cB, Cs, hk1, rfl, St⟩ := hrel
    by_cases hlt : k < ids.length
    · obtain ⟨b, off, rfl, hc⟩ := hv (by omega)
      have hck : wr.cell? ⟨b, off + k, none⟩ = some (.int .i64 (ids.getD k 0)) := (World.cell?_of_block (a := ⟨b, off + k, none⟩) (St.bel.block b (hvB _ rfl (by omega)))).trans (hc k hlt)
      have hx : Hid ((⟨newI (ids.getD k 0) 4, newL (ids.getD k 0) 4⟩ : Bg) = newBg (ids.getD k 0) (fun _ => false)) := (newBg_0 _).symm
      have hCl : Hid (Cs.length = k) := St.len
      have hCm : Cs.length ≤ 5 := by have := hCl.out; omega
      obtain ⟨id, hid⟩ : ∃ i, ids.getD k 0 = i := ⟨_, rfl⟩
      rw [hid] at hck
      replace hid : Hid _ := hid
      clear hv hc
      go_wp2_with fail
      go_at_call 62
      refine (newBI id 4 wr).mono ?_
      rintro e x1 ⟨a1, c1, rfl, n1, kq⟩
      have St1 := St.later kq
      obtain ⟨x2, hx2⟩ : ∃ x, x = x1.alloc (Obj.cells #[.int .i64 (newI id 4), .slice a1 (newL id 4).length c1] 40) := ⟨_, rfl⟩
      have kx2 : Below x1.heap.size x1 x2 := by rw [hx2]; exact below_new _
      have b2 : BrAt x2 x1.heap.size (newI id 4) (.slice a1 (newL id 4).length c1) := by rw [hx2]; exact BrAt.new x1 _ _ _
      have St2 := St1.later kx2
      have k02 : Below wr.heap.size wr x2 := kq.trans (kx2.mono kq.size)
      have n2 := n1.later kx2
      have V1 := FView.oneB x2 40 ⟨newI id 4, a1, c1, newL id 4⟩
      have kx3 : Below x2.heap.size x2 (x2.alloc (Obj.cells #[.int .i64 (newI id 4), .slice a1 (newL id 4).length c1] 40)) := below_new _
      have O2 := (St2.later kx3).own.row
      have k03 := k02.trans (kx3.mono k02.size)
      have n3 := n2.later kx3
      have hM2 := St2.nb.lt
      have nb2 := St2.nb
      obtain ⟨⟨m0, m1⟩, mf⟩ := nb2
      have mf0 := mf 0
      obtain ⟨c0, c1_⟩ := b2
      have hsz := k02.size
      have hz9 := kx2.size
      go_upto_region 8 with fail
      rw [← hx2]
      clear hx2 kx2 St1 n1 n2 kq mf
      go_wp2_with (first | (at_builtin; refine fappL bdEnc_len bdEnc_ones rfl _ _ 24 rfl (M + 1) 40 i0 (.agg #[.int .i64 0, .slice none 0 0]) 32 Tryz.underlying24 hi hz0 hz1 hz2 rfl (by decide) (by decide) (.slice adB Cs.length cB) Cs rfl O2 (some ⟨x2.heap.size, 0, none⟩) 1 [(⟨newI id 4, a1, c1, newL id 4⟩ : Bd)] rfl (fun e => by cases e) V1 ?z0 ?z1 ?_) | go_in)
      case z0 => simp; omega
      case z1 => have := St2.nb.lt; simp; omega
      intro vZ wZ hownZ hgrowZ hvZ
      obtain ⟨adZ, cZ, rfl⟩ := hownZ.open_
      have hx' : (⟨newI id 4, a1, c1, newL id 4⟩ : Bd).d = newBg (ids.getD k 0) ((fun _ _ => false : Nat → Nat → Bool) k) := by rw [hid.out]; have := hx.out; rw [hid.out] at this; exact this
      have StZ := St.push (x := ⟨newI id 4, a1, c1, newL id 4⟩) k03 n3 hx' hownZ hgrowZ (by rw [World.size_alloc]; exact hvZ)
      have nbZ : NeBox wZ M (.slice adB Cs.length cB) (.slice adL K.length cL) := ((St2.later kx3).nb.keep (hgrowZ.block M (by have := kx3.size; omega) (fun e => by have := (St.own.row.lt M e.symm).1; omega)))
      obtain ⟨⟨p0, p1⟩, pf⟩ := nbZ
      have pf0 := pf 0
      clear hownZ hgrowZ hvZ V1 O2 kx3 k03 n3 hx' pf m0 m1 mf0 c0 c1_ St2 St hck
      generalize Cs ++ [(⟨newI id 4, a1, c1, newL id 4⟩ : Bd)] = Ds at StZ ⊢
      go_wp2
      go_roundw
      case rel => exact ⟨k + 1, _, _, _, by omega, by go_num, StZ⟩
      case measure => simp [intOf]; omega
    · obtain rfl : k = ids.length := by omega
      clear hv hvB
      go_wp2
      have St := St.retag (U := ofK (K.take 0)) (fun i x => by simp [ofK, onceL])
      go_loopw [42] (fun q wr => ∃ (k : Nat) (adB : Option Addr) (cB : Nat) (Cs : List Bd), k ≤ K.length ∧ q = .int .i64 k ∧ NewSt w.heap.size M ids (ofK (K.take k)) ids.length K adL cL w wr adB cB Cs) (fun q _ => K.length - (intOf q).toNat)
      case atStart => exact ⟨0, _, _, _, Nat.zero_le _, rfl, St⟩
      case round =>
        clear St
        obtain ⟨k, adB, cB, Cs, hk1, rfl, St⟩ := hrel
        by_cases hlt : k < K.length
        · obtain ⟨b, off, rfl, _⟩ := vk (by omega)
          have hnx : Hid (∀ i x, lift (lift (ofK (K.take k)) (K.getD k Lk.nil).a (K.getD k Lk.nil).p) (K.getD k Lk.nil).b (K.getD k Lk.nil).q i x = ofK (K.take (k + 1)) i x) := ofK_take K hlt
          obtain ⟨x, hh⟩ : ∃ h, K.getD k Lk.nil = h := ⟨_, rfl⟩
          rw [hh] at hnx
          have hck : LkAtO wr b (off + k * 4) x := by
            rw [← hh]
            exact lkAtO_of ((vk.below St.bel hkB).at_ lkEnc_len Lk.nil hlt)
          obtain ⟨c0, c1, c2, c3⟩ := hck
          obtain ⟨u, hu⟩ : ∃ u, u = wr.alloc (Obj.cells #[.int .i64 x.a, .int .i64 x.p, .int .i64 x.b, .int .i64 x.q] 34) := ⟨_, rfl⟩
          have ku : Below wr.heap.size wr u := by rw [hu]; exact below_new _
          clear hh
          go_wp2_with fail
          go_at_call 63
          rw [← hu]
          clear hu c0 c1 c2 c3
          refine (endsI x u).mono ?_
          rintro e u1 ⟨rfl, k1⟩
          have St := (St.later ku).later k1
          clear ku k1
          have ix0 := ixEnd0 x
          have ix1 := ixEnd1 x
          obtain ⟨z, hz⟩ : ∃ z, z = u1.alloc (Obj.cells #[.int .i64 x.a, .int .i64 x.p] 91) := ⟨_, rfl⟩
          have kz : Below u1.heap.size u1 z := by rw [hz]; exact below_new _
          have Sz := St.later kz
          have nb := St.nb
          obtain ⟨⟨m0, m1⟩, mf⟩ := nb
          have lm := St.nb.lt
          clear mf kz
          go_wp2
          refine wp_loop_rounds 3 ?_
          rw [rounds_succ]
          go_wp2_with fail
          go_at_call 64
          rw [← hz]
          clear hz
          clear m0 m1
          refine (raiseI adB cB Cs adL cL K x.a x.p (M + 1) z.heap.size z Sz.own (Nat.le_refl _) (Sz.nn (by omega) hk)).mono ?_
          rintro e v1 ⟨⟨r1, rfl⟩, D1, hl1, ho1, hc1, gr1⟩
          have S1 := Sz.raised hl1 ho1 hc1 gr1
          clear hl1 ho1 hc1 gr1 Sz
          have nb := S1.nb
          obtain ⟨⟨m0, m1⟩, mf⟩ := nb
          have lm := S1.nb.lt
          clear mf
          obtain ⟨z2, hz2⟩ : ∃ z, z = v1.alloc (Obj.cells #[.int .i64 x.b, .int .i64 x.q] 91) := ⟨_, rfl⟩
          have kz2 : Below v1.heap.size v1 z2 := by rw [hz2]; exact below_new _
          have Sz2 := S1.later kz2
          clear kz2 S1
          go_wp2_with fail
          rw [rounds_succ]
          go_wp2_with fail
          go_at_call 64
          rw [← hz2]
          clear hz2
          clear m0 m1
          refine (raiseI adB cB D1 adL cL K x.b x.q (M + 1) z2.heap.size z2 Sz2.own (Nat.le_refl _) (Sz2.nn (by omega) hk)).mono ?_
          rintro e v2 ⟨⟨r2, rfl⟩, D2, hl2, ho2, hc2, gr2⟩
          have S2 := Sz2.raised hl2 ho2 hc2 gr2
          clear hl2 ho2 hc2 gr2 Sz2
          have nb := S2.nb
          obtain ⟨⟨m0, m1⟩, mf⟩ := nb
          have lm := S2.nb.lt
          clear mf
          have S2 := S2.retag hnx.out
          go_wp2_with fail
          rw [rounds_succ]
          go_wp2
          go_roundw
          case rel => exact ⟨k + 1, _, _, _, by omega, by go_num, S2⟩
          case measure => simp [intOf]; omega
        · obtain rfl : k = K.length := by omega
          rw [List.take_length] at St
          have nb := St.nb
          obtain ⟨⟨m0, m1⟩, mf⟩ := nb
          clear mf
          go_wp2_with fail
          go_at_call 10
          refine (netOkI adB cB Cs adL cL K wr (St.nn (by omega) hk) St.own.row.cap_).mono ?_
          rintro e v1 ⟨⟨ok, rfl, hok⟩, kv⟩
          have S1 := St.later kv
          clear St kv m0 m1
          have nb := S1.nb
          obtain ⟨⟨m0, m1⟩, mf⟩ := nb
          have rb := S1.rb
          obtain ⟨⟨r0, r1⟩, rf⟩ := rb
          have rf0 := rf 0
          have rf1 := rf 1
          have hP : Hid (NewP ids K ↔ NetP (dB Cs) K) := by
            unfold Hid NewP
            rw [S1.d]
            exact ⟨fun h => h.2, fun h => ⟨h5, h⟩⟩
          by_cases hy : NetP (dB Cs) K
          rotate_left
          · obtain rfl := bool_no hok hy
            have hno : Hid (¬ NewP ids K) := fun h => hy (hP.out.1 h)
            have B9 : Below w.heap.size w ((v1.setCell ⟨w.heap.size, 0, none⟩ (.slice none 0 0)).setCell ⟨w.heap.size, 1, none⟩ (.slice none 0 0)) := (S1.bel.setCell (Nat.le_refl _) _).setCell (Nat.le_refl _) _
            have R9 := S1.rb.put (.slice none 0 0) (.slice none 0 0)
            clear hok hy hP S1 mf rf
            go_wp2
            obtain ⟨⟨t0, t1⟩, _⟩ := R9
            refine bodyPost_ret (v := .tuple #[.agg #[.slice none 0 0, .slice none 0 0], .bool false]) (by simp [results, Tryz.results19, go_sem, *]) rfl ?_
            exact NewRet.no hno.out B9
          · obtain rfl : ok = true := hok.2 hy
            have hyes : Hid (NewP ids K) := hP.out.2 hy
            have hMl := S1.nb.lt
            have hRM := S1.rm
            have B9 : Below w.heap.size w ((v1.setCell ⟨w.heap.size, 0, none⟩ (.slice adB Cs.length cB)).setCell ⟨w.heap.size, 1, none⟩ (.slice adL K.length cL)) := (S1.bel.setCell (Nat.le_refl _) _).setCell (Nat.le_refl _) _
            have R9 := S1.rb.put (.slice adB Cs.length cB) (.slice adL K.length cL)
            have sb : ∀ j, j ≠ w.heap.size → ((v1.setCell ⟨w.heap.size, 0, none⟩ (.slice adB Cs.length cB)).setCell ⟨w.heap.size, 1, none⟩ (.slice adL K.length cL)).heap[j]? = v1.heap[j]? := fun j hj => by rw [Below.heap_setCell _ _ _ _ hj, Below.heap_setCell _ _ _ _ hj]
            have ss : ((v1.setCell ⟨w.heap.size, 0, none⟩ (.slice adB Cs.length cB)).setCell ⟨w.heap.size, 1, none⟩ (.slice adL K.length cL)).heap.size = v1.heap.size := by simp
            have N9 : NetOwn w.heap.size (M + 1) v1.heap.size ((v1.setCell ⟨w.heap.size, 0, none⟩ (.slice adB Cs.length cB)).setCell ⟨w.heap.size, 1, none⟩ (.slice adL K.length cL)) (.slice adB Cs.length cB) Cs (.slice adL K.length cL) K := by
              refine ⟨S1.own.keep (fun g hg _ => sb g (by omega)), S1.kown.keep (fun g e => sb g (by have := hKl g e; omega)), fun g e => by have := S1.khi g e; omega, by omega, hMl, by rw [ss]; exact Nat.le_refl _⟩
            have hD : Hid (dB Cs = netN ids (ofK K) ids.length) := S1.d
            clear hok hy hP S1 mf rf sb
            go_wp2
            obtain ⟨⟨t0, t1⟩, _⟩ := R9
            refine bodyPost_ret (v := .tuple #[.agg #[.slice adB Cs.length cB, .slice adL K.length cL], .bool true]) (by simp [results, Tryz.results19, go_sem, *]) rfl ?_
            rw [← ss] at N9
            exact NewRet.yes hyes.out hD.out N9 B9

end Go.Proofs.YtemibefbkjpnaaaGreat
namespace Go.Proofs.YtemibefbkjpnaaaGreat
open Go.ChangeShapes Go.WideShapes Go.ChangeAt Go.RowKit
open Go.ChangeMaps (open_string shut_string)
set_option linter.unusedVariables false
set_option maxRecDepth 100000

/-- The marks that the law lays upon one, from s on. -/
def lkMk (s : Int) (i : Nat) : Lk := ⟨(s + 4 * (i : Int)), (s + 4 * (i : Int)) + 1, (s + 4 * (i : Int)) + 1 + 1, (s + 4 * (i : Int)) + 1 + 1 + 1⟩
set_option maxHeartbeats 4000000 in
theorem lkMark (ad : Option Addr) (cap : Nat) (s : Int) (base : Nat) (L : List Lk) (w : World) (hr : FOwn lkEnc 4 34 base w (.slice ad L.length cap) L) (hl : L.length ≤ 1048576) (s0 : 0 ≤ s) (s1 : s ≤ 1000000000000) :
    Calls Tryz.prog 33 #[.slice ad L.length cap, .int .i64 s] w fun e w' => e = .returned (.int .i64 (s + 4 * (L.length : Int))) ∧ FOwn lkEnc 4 34 base w' (.slice ad L.length cap) ((List.range L.length).map (lkMk s)) ∧ w.grownBy w' (Value.slice ad L.length cap).ownBlock := by
  by_cases hz : L.length = 0
  · obtain rfl : L = [] := List.eq_nil_of_length_eq_zero hz
    go_enter Tryz.func33, Tryz.ntmps33
    go_wp2
    refine wp_loop_rounds 1 ?_; rw [rounds_succ]
    go_wp2
    go_ret
    exact ⟨by simp, hr, ⟨rfl, rfl, rfl, Nat.le_refl _, fun _ _ _ => rfl⟩⟩
  obtain ⟨g, rfl⟩ : ∃ g, ad = some ⟨g, 0, none⟩ := by
    rcases hr.2 with ⟨_, q⟩ | ⟨g, cap, cur, q, _⟩
    · omega
    · simp only [Value.slice.injEq] at q
      exact ⟨g, q.1⟩
  have M0 : FOwn lkEnc 4 34 base w (.slice (some ⟨g, 0, none⟩) L.length cap) (markd (lkMk s) L 0) := by rw [markd_zero]; exact hr
  have g0 : w.grownBy w (some g) := ⟨rfl, rfl, rfl, Nat.le_refl _, fun _ _ _ => rfl⟩
  clear hr hz
  go_enter Tryz.func33, Tryz.ntmps33
  go_wp2
  go_loopw [1, 5] (fun q i wr => ∃ k : Nat, k ≤ L.length ∧ i = .int .i64 k ∧ q = .int .i64 (s + 4 * (k : Int)) ∧ FOwn lkEnc 4 34 base wr (.slice (some ⟨g, 0, none⟩) L.length cap) (markd (lkMk s) L k) ∧ w.grownBy wr (some g)) (fun _ i _ => L.length - (intOf i).toNat)
  case atStart => exact ⟨0, Nat.zero_le _, rfl, by simp, M0, g0⟩
  case round =>
    obtain ⟨k, hk, rfl, rfl, M, gr⟩ := hrel
    clear M0 g0
    have hml := markd_len (mk := lkMk s) hk
    by_cases hlt : k < L.length
    · rw [← hml] at M
      have hk2 : k < (markd (lkMk s) L k).length := by rw [hml]; exact hlt
      obtain ⟨h, hh⟩ : ∃ h, (markd (lkMk s) L k).getD k Lk.nil = h := ⟨_, rfl⟩
      have hck : LkAtO wr g (k * 4) h := by
        rw [← hh]
        exact lkAtO_of (M.cell lkEnc_len Lk.nil hk2)
      have ff := M.frozen
      have f0 := ff (k * 4)
      have f1 := ff (k * 4 + 1)
      have f2 := ff (k * 4 + 2)
      have f3 := ff (k * 4 + 3)
      have M1 := M.set lkEnc_len (by omega) hk2 (lkMk s k)
      rw [markd_set hlt, lkPut, hml] at M1
      have G1 := grown_putAll (lkEnc (lkMk s k)) (k * 4) gr
      rw [lkPut] at G1
      unfold lkMk at M1 G1
      dsimp only at M1 G1
      clear M gr ff hh hml hk2
      obtain ⟨c0, c1, c2, c3⟩ := hck
      generalize hK : s + 4 * (k : Int) = K at M1 G1 ⊢
      have K0 : 0 ≤ K := by omega
      have K1 : K ≤ 1100000000000 := by omega
      replace hK : Hid _ := hK
      go_wp2
      go_roundw
      case rel => exact ⟨k + 1, by omega, by go_num, by have := hK.out; go_num, M1, G1⟩
      case measure => simp [intOf]; omega
    · obtain rfl : k = L.length := by omega
      rw [markd_all] at M
      go_wp2
      go_ret
      exact ⟨rfl, M, gr⟩
set_option maxHeartbeats 4000000 in
theorem lkHeld (ad : Option Addr) (len cap : Nat) (s : Int) (w : World) (hv : FView lkEnc w ad ((List.range len).map (lkMk s))) (hl : len ≤ 1048576) (s0 : 0 ≤ s) (s1 : s ≤ 1000000000000) :
    Calls Tryz.prog 77 #[.slice ad len cap, .int .i64 s] w fun e w' => e = .returned (.int .i64 (s + 4 * (len : Int))) ∧ w' = w := by
  go_enter Tryz.func77, Tryz.ntmps77
  go_wp2
  go_loop [1, 5] (fun q i => ∃ k : Nat, k ≤ len ∧ i = .int .i64 k ∧ q = .int .i64 (s + 4 * (k : Int))) (fun _ i => len - (intOf i).toNat)
  case atStart => exact ⟨0, Nat.zero_le _, rfl, by simp⟩
  case round =>
    obtain ⟨k, hk, rfl, rfl⟩ := hrel
    by_cases hlt : k < len
    · obtain ⟨b, off, rfl, _⟩ := hv (by simpa using Nat.lt_of_le_of_lt (Nat.zero_le _) hlt)
      have hck : LkAtO w b (off + k * 4) (lkMk s k) := by
        have := lkAtO_of (hv.at_ lkEnc_len Lk.nil (i := k) (by simpa using hlt))
        rwa [show ((List.range len).map (lkMk s)).getD k Lk.nil = lkMk s k by simp [List.getD, hlt]] at this
      obtain ⟨c0, c1, c2, c3⟩ := hck
      unfold lkMk at c0 c1 c2 c3
      dsimp only at c0 c1 c2 c3
      generalize hK : s + 4 * (k : Int) = K at c0 c1 c2 c3 ⊢
      have K0 : 0 ≤ K := by omega
      have K1 : K ≤ 1100000000000 := by omega
      replace hK : Hid _ := hK
      have tq : ∀ x : Int, (!decide (x % 3 = 0) == (x % 3 == 0)) = false := fun x => by by_cases q : x % 3 = 0 <;> simp [q]
      go_wp2
      go_round
      case rel => exact ⟨k + 1, by omega, by go_num, by have := hK.out; go_num⟩
      case measure => simp [intOf]; omega
    · obtain rfl : k = len := by omega
      go_wp2
      go_ret
      exact ⟨rfl, rfl⟩

end Go.Proofs.YtemibefbkjpnaaaGreat
namespace Go.Proofs.YtemibefbkjpnaaaGreat
open Go.ChangeShapes Go.WideShapes Go.ChangeAt Go.RowKit
open Go.ChangeMaps (open_string shut_string)
set_option linter.unusedVariables false
set_option maxRecDepth 100000

theorem NewOut.small {ids : List Int} {K : List Lk} {ok : Bool} {Cs : List Bd} {KL : List Lk} (h : NewOut ids K ok Cs KL) : Cs.length ≤ 5 ∧ (∀ i, i < Cs.length → (Cs.getD i Bd.nil).L.length ≤ 4) ∧ KL.length ≤ K.length := by
  cases ok with
  | true =>
    obtain ⟨d, rfl⟩ := h.yes rfl
    have hl : Cs.length = ids.length := by
      have := congrArg List.length d
      rw [netN_len] at this
      simpa [dB] using this
    refine ⟨by rw [hl]; exact (h.yn.1 rfl).1, fun i hi => ?_, Nat.le_refl _⟩
    have := congrArg (fun D => D.getD i Bg.nil) d
    simp only [bd_get] at this
    rw [netN_get _ _ (by omega)] at this
    have e : (Cs.getD i Bd.nil).L = (newBg (ids.getD i 0) (ofK KL i)).L := congrArg Bg.L this
    rw [e]
    exact newBg_len _ _
  | false =>
    obtain ⟨rfl, rfl⟩ := h.no rfl
    exact ⟨by simp, fun i hi => absurd hi (by simp), by simp⟩
theorem NewOut.same {ids : List Int} {K : List Lk} {ok ok' : Bool} {Cs Cs' : List Bd} {KL KL' : List Lk} (h : NewOut ids K ok Cs KL) (h' : NewOut ids K ok' Cs' KL') : ok' = ok ∧ Cs'.map Bd.d = Cs.map Bd.d ∧ KL' = KL := by
  have e : ok' = ok := Bool.eq_iff_iff.2 (h'.yn.trans h.yn.symm)
  subst e
  cases ok' with
  | true => exact ⟨rfl, (h'.yes rfl).1.trans (h.yes rfl).1.symm, (h'.yes rfl).2.trans (h.yes rfl).2.symm⟩
  | false => exact ⟨rfl, by rw [(h'.no rfl).1, (h.no rfl).1], (h'.no rfl).2.trans (h.no rfl).2.symm⟩
set_option maxHeartbeats 2000000 in
theorem netMark (adB : Option Addr) (cB : Nat) (Cs : List Bd) (adL : Option Addr) (cL : Nat) (K : List Lk) (k0 : Int) (lo mid hi : Nat) (w : World) (h : NetOwn lo mid hi w (.slice adB Cs.length cB) Cs (.slice adL K.length cL) K) (hl : Cs.length ≤ 100) (hls : ∀ i, i < Cs.length → (Cs.getD i Bd.nil).L.length ≤ 100) (hk : K.length ≤ 1048576) (hk0 : 0 ≤ k0) (hk1 : k0 ≤ 100000000) :
    Calls Tryz.prog 34 #[.agg #[.slice adB Cs.length cB, .slice adL K.length cL], .int .i64 k0] w fun e w' => e = .returned (.int .i64 (k0 + (kTo Cs Cs.length : Int) + 4 * (K.length : Int))) ∧ NetOwn lo mid hi w' (.slice adB Cs.length cB) (marksN Cs k0 Cs.length) (.slice adL K.length cL) ((List.range K.length).map (lkMk (k0 + (kTo Cs Cs.length : Int)))) ∧ KeptR lo hi w w' := by
  have hkb : (kTo Cs Cs.length : Int) ≤ 200000 := by
    have h1 : ∀ i, i ≤ Cs.length → lTo Cs i ≤ 100 * i := by
      intro i
      induction i with
      | zero => intro _; exact Nat.le_refl _
      | succ i ih =>
        intro hi
        have := ih (by omega)
        have := hls i (by omega)
        show lTo Cs i + _ ≤ _
        omega
    have := h1 Cs.length (Nat.le_refl _)
    rw [kTo_lTo]
    omega
  obtain ⟨y, hy⟩ : ∃ y, y = w.alloc (Obj.cells #[.slice adB Cs.length cB, .slice adL K.length cL] 27) := ⟨_, rfl⟩
  have k0y : Below w.heap.size w y := by rw [hy]; exact below_new _
  have A0 : NeAt y w.heap.size (.slice adB Cs.length cB) (.slice adL K.length cL) := by rw [hy]; exact NeAt.new w _
  have hy' := h.later k0y
  have hhs := h.hs
  have hlm := h.lm
  have hmh := h.mh
  obtain ⟨s, hs⟩ : ∃ s, s = k0 + (kTo Cs Cs.length : Int) := ⟨_, rfl⟩
  rw [← hs]
  have s0 : 0 ≤ s := by omega
  have s1 : s ≤ 100200000 := by omega
  replace hs : Hid _ := hs
  go_enter Tryz.func34, Tryz.ntmps34
  go_wp2_with fail
  go_at_call 75
  rw [← hy]
  clear hy
  refine (bdMark adB cB Cs k0 mid hi y hy'.own hy'.hs hl hls hk0 hk1).mono ?_
  rintro e w1 ⟨rfl, o1, kr1⟩
  rw [← hs.out]
  have A1 := A0.keep (kr1.block _ A0.lt (.inr (by omega)))
  have o2 : FOwn lkEnc 4 34 lo w1 (.slice adL K.length cL) K := hy'.own2.keep (fun g e => kr1.block g (hy'.own2.lt g e).2 (.inl (h.khi g e)))
  have hz1 := kr1.size
  have hz0 := k0y.size
  clear A0
  obtain ⟨a0, a1⟩ := A1
  go_wp2_with fail
  go_at_call 33
  refine (lkMark adL cL s lo K w1 o2 hk s0 (by omega)).mono ?_
  rintro e w2 ⟨rfl, o3, gr⟩
  have hkl : ∀ g, (Value.slice adL K.length cL).ownBlock = some g → lo ≤ g ∧ g < mid := fun g e => ⟨(o2.lt g e).1, h.khi g e⟩
  have hz2 := gr.size
  have N2 : NetOwn lo mid hi w2 (.slice adB Cs.length cB) (marksN Cs k0 Cs.length) (.slice adL K.length cL) ((List.range K.length).map (lkMk s)) :=
    ⟨o1.keep (fun g h1 h2 => gr.block g (by omega) (fun e => by have := hkl g e.symm; omega)), o3, h.khi, hlm, hmh, by omega⟩
  have KR : KeptR lo hi w w2 := ((KeptR.of_below k0y).trans (kr1.wide hlm (Nat.le_refl _))).trans (KeptR.of_grown gr (fun k e => by have := hkl k e; omega))
  clear gr o3 o1 kr1 o2
  go_wp2
  go_ret
  exact ⟨rfl, N2, KR⟩
set_option maxHeartbeats 2000000 in
theorem netHeld (adB : Option Addr) (cB : Nat) (Cs : List Bd) (adL : Option Addr) (cL : Nat) (n : Nat) (k0 : Int) (w : World) (vb : NV w adB (marksN Cs k0 Cs.length)) (vk : FView lkEnc w adL ((List.range n).map (lkMk (k0 + (kTo Cs Cs.length : Int))))) (hl : Cs.length ≤ 100) (hls : ∀ i, i < Cs.length → (Cs.getD i Bd.nil).L.length ≤ 100) (hk : n ≤ 1048576) (hk0 : 0 ≤ k0) (hk1 : k0 ≤ 100000000) :
    Calls Tryz.prog 35 #[.agg #[.slice adB Cs.length cB, .slice adL n cL], .int .i64 k0] w fun e w' => e = .returned (.int .i64 (k0 + (kTo Cs Cs.length : Int) + 4 * (n : Int))) ∧ Below w.heap.size w w' := by
  have hkb : (kTo Cs Cs.length : Int) ≤ 200000 := by
    have h1 : ∀ i, i ≤ Cs.length → lTo Cs i ≤ 100 * i := by
      intro i
      induction i with
      | zero => intro _; exact Nat.le_refl _
      | succ i ih =>
        intro hi
        have := ih (by omega)
        have := hls i (by omega)
        show lTo Cs i + _ ≤ _
        omega
    have := h1 Cs.length (Nat.le_refl _)
    rw [kTo_lTo]
    omega
  obtain ⟨y, hy⟩ : ∃ y, y = w.alloc (Obj.cells #[.slice adB Cs.length cB, .slice adL n cL] 27) := ⟨_, rfl⟩
  have k0y : Below w.heap.size w y := by rw [hy]; exact below_new _
  have A0 : NeAt y w.heap.size (.slice adB Cs.length cB) (.slice adL n cL) := by rw [hy]; exact NeAt.new w _
  obtain ⟨s, hs⟩ : ∃ s, s = k0 + (kTo Cs Cs.length : Int) := ⟨_, rfl⟩
  rw [← hs] at vk ⊢
  have hkB := vk.lt lkEnc_len (by omega)
  have s0 : 0 ≤ s := by omega
  have s1 : s ≤ 100200000 := by omega
  have sn : ¬ s < 0 := by omega
  have sn2 : ¬ s + 4 * (n : Int) < 0 := by omega
  replace hs : Hid _ := hs
  go_enter Tryz.func35, Tryz.ntmps35
  go_wp2_with fail
  go_at_call 76
  rw [← hy]
  clear hy
  refine (bdHeld adB cB Cs k0 y (vb.below k0y (Nat.le_refl _)) hl hls hk0 hk1).mono ?_
  rintro e w1 ⟨rfl, rfl⟩
  rw [← hs.out]
  obtain ⟨a0, a1⟩ := A0
  go_wp2_with fail
  go_at_call 77
  refine (lkHeld adL n cL s w1 (vk.below k0y hkB) hk s0 (by omega)).mono ?_
  rintro e w2 ⟨rfl, rfl⟩
  go_wp2
  go_ret
  exact ⟨rfl, k0y⟩

end Go.Proofs.YtemibefbkjpnaaaGreat
