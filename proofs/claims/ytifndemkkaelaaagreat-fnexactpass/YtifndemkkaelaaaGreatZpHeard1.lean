/- Lists of what was heard: how they come in; the small functions over them. -/
import Derived.Test.YtifndemkkaelaaaGreatRows
import Derived.WalkKit
import Derived.ProofKit
import Derived.OpenShut
import Derived.ShutString
import Derived.ChangeOld
import Derived.Below
import Derived.Deep.QuietTactic
import Derived.BigQuiet
import Derived.WalkSmall
import Derived.Laws.OwnMore
import Derived.WalkSpells
import Derived.Deep.Slices
import Derived.Test.YtifndemkkaelaaaGreatZp1
namespace Go.Proofs.YtifndemkkaelaaaGreat
open Go.ChangeShapes Go.WideShapes Go.ChangeAt Go.RowKit
open Go.ChangeMaps (open_string shut_string)
set_option linter.unusedVariables false

/-- One that was heard, as numbers. -/
structure Hd where
  a : Int
  v : Int
  p : Int
  l : Int
def Hd.nil : Hd := ⟨0, 0, 0, 0⟩
structure Hd.Wf (h : Hd) : Prop where
  a : (Lit.int .i64 h.a).wf = true
  v : (Lit.int .i64 h.v).wf = true
  p : (Lit.int .i64 h.p).wf = true
  l : (Lit.int .i64 h.l).wf = true
/-- The four cells of one that was heard. -/
def HAt (w : World) (b o : Nat) (h : Hd) : Prop :=
  w.cell? ⟨b, o, none⟩ = some (.int .i64 h.a) ∧ w.cell? ⟨b, o + 1, none⟩ = some (.int .i64 h.v) ∧ w.cell? ⟨b, o + 2, none⟩ = some (.int .i64 h.p) ∧ w.cell? ⟨b, o + 3, none⟩ = some (.int .i64 h.l)
/-- The slice at 'ad' reads, in the world w, as the list L. -/
def HView (w : World) (ad : Option Addr) (L : List Hd) : Prop :=
  0 < L.length → ∃ b off, ad = some ⟨b, off, none⟩ ∧ ∀ i, i < L.length → HAt w b (off + i * 4) (L.getD i Hd.nil)
/-- Its cells may be written. -/
def HRoom (w : World) (ad : Option Addr) (len : Nat) : Prop :=
  0 < len → ∃ b off, ad = some ⟨b, off, none⟩ ∧ ∀ i, i < len * 4 → (∃ u, w.cell? ⟨b, off + i, none⟩ = some u) ∧ w.frozen? ⟨b, off + i, none⟩ = false
/-- Where it lies, if anywhere. -/
def HIs (ad : Option Addr) (L : List Hd) (P : Nat → Prop) : Prop := ∀ a, ad = some a → 0 < L.length → P a.block
theorem HAt.of_block {w w' : World} {b o : Nat} {h : Hd} (k : HAt w b o h) (hb : w'.heap[b]? = w.heap[b]?) : HAt w' b o h :=
  ⟨(World.cell?_of_block (a := ⟨b, o, none⟩) hb).trans k.1, (World.cell?_of_block (a := ⟨b, o + 1, none⟩) hb).trans k.2.1, (World.cell?_of_block (a := ⟨b, o + 2, none⟩) hb).trans k.2.2.1, (World.cell?_of_block (a := ⟨b, o + 3, none⟩) hb).trans k.2.2.2⟩
theorem HView.carry {w w' : World} {ad : Option Addr} {L : List Hd} (h : HView w ad L) (hb : HIs ad L fun j => w'.heap[j]? = w.heap[j]?) : HView w' ad L :=
  fun hp => by
    obtain ⟨b, off, e, hc⟩ := h hp
    exact ⟨b, off, e, fun i hi => (hc i hi).of_block (hb ⟨b, off, none⟩ e hp)⟩
theorem HView.below {w w' : World} {ad : Option Addr} {L : List Hd} {B : Nat} (h : HView w ad L) (hb : HIs ad L (· < B)) (k : Below B w w') : HView w' ad L :=
  h.carry fun a e hp => k.block _ (hb a e hp)
theorem HRoom.carry {w w' : World} {ad : Option Addr} {len : Nat} (h : HRoom w ad len) (hb : ∀ a, ad = some a → 0 < len → w'.heap[a.block]? = w.heap[a.block]?) : HRoom w' ad len :=
  fun hp => by
    obtain ⟨b, off, e, hc⟩ := h hp
    refine ⟨b, off, e, fun i hi => ⟨?_, ?_⟩⟩
    · obtain ⟨u, hu⟩ := (hc i hi).1
      exact ⟨u, (World.cell?_of_block (a := ⟨b, off + i, none⟩) (hb ⟨b, off, none⟩ e hp)).trans hu⟩
    · exact (World.frozen?_of_block (a := ⟨b, off + i, none⟩) (hb ⟨b, off, none⟩ e hp)).trans (hc i hi).2
/-- What is known of a list that comes in. -/
structure HIn (w : World) (ad : Option Addr) (L : List Hd) : Prop where
  lm : L.length ≤ maxLen
  hv : HView w ad L
  hB : HIs ad L (· < w.heap.size)
  wf : ∀ h ∈ L, h.Wf
set_option maxRecDepth 100000 in
theorem heardIn_open {H : Type} {enc : TypeId × Value → H} {w : World} {r : Reach} {b0 : Nat} {v : Value} {d : DataW H} {p : List MemPlace} (hv : Value.okWide Tryz.prog w r b0 54 v) (h : DataW.Trod enc Tryz.prog w 0 (fun _ => true) true 54 v d p) :
    ∃ ad cap L, v = .slice ad L.length cap ∧ HIn w ad L := by
  obtain ⟨n, hn⟩ := h
  have hs := Go.Deep.open_slice Tryz.underlying54 hn
  obtain ⟨a0, len0, cap0, rfl⟩ := okWide_slice (P := Tryz.prog) (t := 54) (e := 139) Tryz.underlying54 hv
  have hcell : ∀ x, (Value.slice a0 len0 cap0).cells.toList = [x] → Value.slice a0 len0 cap0 = x := fun x h => by simpa [Value.cells] using h
  rcases hs with ⟨hcs, _⟩ | ⟨a, len, cap, m, n, D, Pl, hcs, _, hl, hm, hmm, _, hx⟩
  · exact ⟨none, 0, [], hcell _ hcs, by simp, fun h => absurd h (by simp), fun a h => by simp at h, fun h hh => by simp at hh⟩
  · simp at hmm
    subst hmm
    have each : ∀ i, i < m → ∃ q : Hd, q.Wf ∧ w.cell? (a.add (i * 4)) = some (.int .i64 q.a) ∧ w.cell? (a.add (i * 4 + 1)) = some (.int .i64 q.v) ∧ w.cell? (a.add (i * 4 + 2)) = some (.int .i64 q.p) ∧ w.cell? (a.add (i * 4 + 3)) = some (.int .i64 q.l) := by
      intro i hi
      obtain ⟨cs', h1, h2⟩ := hx i hi
      rw [(by kernel_rfl : Tryz.prog.cellsOf 139 = 4)] at h1
      obtain ⟨_, hlen, hc⟩ := World.cells?_some h1
      obtain ⟨xs, k, hk, hxy, _, hxl, hf⟩ := DataW.trod_struct Tryz.underlying139 h2
      match xs, hxl, cs', hlen with
      | [y0, y1, y2, y3], _, [c0, c1, c2, c3], _ =>
        have hc3 : Tryz.prog.cellsOf 3 = 1 := by kernel_rfl
        have g0 : DataW.trod enc Tryz.prog w 0 (fun _ => true) true k 3 ((List.drop 0 [c0, c1, c2, c3]).take (Tryz.prog.cellsOf 3)) = some y0 := hf 0 _ rfl
        have g1 : DataW.trod enc Tryz.prog w 0 (fun _ => true) true k 3 ((List.drop 1 [c0, c1, c2, c3]).take (Tryz.prog.cellsOf 3)) = some y1 := hf 1 _ rfl
        have g2 : DataW.trod enc Tryz.prog w 0 (fun _ => true) true k 3 ((List.drop 2 [c0, c1, c2, c3]).take (Tryz.prog.cellsOf 3)) = some y2 := hf 2 _ rfl
        have g3 : DataW.trod enc Tryz.prog w 0 (fun _ => true) true k 3 ((List.drop 3 [c0, c1, c2, c3]).take (Tryz.prog.cellsOf 3)) = some y3 := hf 3 _ rfl
        rw [hc3] at g0 g1 g2 g3
        obtain ⟨z0, e0, _, w0⟩ := DataW.trod_int Tryz.underlying3 g0
        obtain ⟨z1, e1, _, w1⟩ := DataW.trod_int Tryz.underlying3 g1
        obtain ⟨z2, e2, _, w2⟩ := DataW.trod_int Tryz.underlying3 g2
        obtain ⟨z3, e3, _, w3⟩ := DataW.trod_int Tryz.underlying3 g3
        simp at e0 e1 e2 e3
        subst e0 e1 e2 e3
        have k0 := hc 0 (by omega)
        have k1 := hc 1 (by omega)
        have k2 := hc 2 (by omega)
        have k3 := hc 3 (by omega)
        rw [Go.Deep.add_add] at k0 k1 k2 k3
        exact ⟨⟨z0, z1, z2, z3⟩, ⟨w0, w1, w2, w3⟩, by simpa using k0, by simpa using k1, by simpa using k2, by simpa using k3⟩
    haveI : Inhabited Hd := ⟨Hd.nil⟩
    obtain ⟨q, hq⟩ := Go.Deep.choose_lt each
    refine ⟨some a, m, (List.range len).map q, by simpa using hcell _ hcs, by simpa using Nat.le_trans hl hm, fun hp => ?_, fun a' e hp => ?_, fun h hh => ?_⟩
    · simp at hp
      obtain ⟨b, off, spot⟩ := a
      have hspot : spot = none := by simpa [Addr.add] using World.cell?_spot (hq 0 (by omega)).2.1
      subst hspot
      refine ⟨b, off, rfl, fun i hi => ?_⟩
      simp at hi
      obtain ⟨_, k0, k1, k2, k3⟩ := hq i (by omega)
      rw [show ((List.range len).map q).getD i Hd.nil = q i by simp [List.getD, hi]]
      rw [add_plain] at k0 k1 k2 k3
      exact ⟨k0, by simpa [Nat.add_assoc] using k1, by simpa [Nat.add_assoc] using k2, by simpa [Nat.add_assoc] using k3⟩
    · obtain rfl : a = a' := by simpa using e
      simp at hp
      simpa [Addr.add] using World.block_lt_of_cell? w _ (hq 0 (by omega)).2.1
    · obtain ⟨i, hi, rfl⟩ := List.mem_map.1 hh
      exact (hq i (by have := List.mem_range.1 hi; omega)).1

theorem Tryz.info97' : (Tryz.prog.info? 97).map (fun i => (i.zero, i.size, i.bytes)) = some (some (.agg #[.int .i64 0, .int .i64 0, .int .i64 0, .int .i64 0]), 4, 32) := by kernel_rfl
theorem szH (ad : Option Addr) (len cap : Nat) (left : Int) (w : World) (h0 : 0 ≤ left) (h1 : left ≤ 1048576) (hm : len ≤ maxLen) :
    Calls Tryz.prog 64 #[.slice ad len cap, .int .i64 left] w fun e w' => e = .returned (.int .i64 (if (len : Int) ≤ left then left - len else -1)) ∧ w' = w := by
  unfold maxLen at hm
  by_cases h : (len : Int) ≤ left
  · rw [if_pos h]
    have h2 : 0 ≤ left - (len : Int) := by omega
    go_enter Tryz.func64, Tryz.ntmps64
    go_wp2
    go_ret
    exact ⟨rfl, rfl⟩
  · rw [if_neg h]
    have h2 : left - (len : Int) < 0 := by omega
    go_enter Tryz.func64, Tryz.ntmps64
    go_wp2
    go_ret
    exact ⟨rfl, rfl⟩
theorem toHd (a v p l : Int) (w : World) :
    Calls Tryz.prog 112 #[.agg #[.int .i64 a, .int .i64 v, .int .i64 p, .int .i64 l]] w fun e w' => e = .returned (.agg #[.int .i64 a, .int .i64 v, .int .i64 p, .int .i64 l]) ∧ Below w.heap.size w w' := by
  go_enter Tryz.func112, Tryz.ntmps112
  go_wp2
  refine bodyPost_ret (v := .agg #[.int .i64 a, .int .i64 v, .int .i64 p, .int .i64 l]) (by simp [results, Tryz.results112, go_sem]) rfl ⟨rfl, ?_⟩
  exact (((Below.refl _ _).alloc (Nat.le_refl _) _).alloc (by simp) _).alloc (by simp; omega) _

theorem eqHdYes (a v p l : Int) (w : World) :
    Calls Tryz.prog 114 #[.agg #[.int .i64 a, .int .i64 v, .int .i64 p, .int .i64 l], .agg #[.int .i64 a, .int .i64 v, .int .i64 p, .int .i64 l]] w fun e w' => e = .returned (.bool true) ∧ Below w.heap.size w w' := by
  go_enter Tryz.func114, Tryz.ntmps114
  go_wp2
  go_ret
  exact ⟨rfl, ((Below.refl _ _).alloc (Nat.le_refl _) _).alloc (by simp) _⟩
/-- What the loop that fills the block B has done behind k rounds. -/
def HFilled (B : Nat) (L : List Hd) (k : Nat) (w wr : World) : Prop :=
  Below B w wr ∧ B < wr.heap.size ∧ (∀ j, j < L.length * 4 → ∃ u, wr.cell? ⟨B, j, none⟩ = some u) ∧ (∀ j, j < L.length * 4 → wr.frozen? ⟨B, j, none⟩ = false) ∧ ∀ j, j < k → HAt wr B (j * 4) (L.getD j Hd.nil)
theorem hfilled_made {w w1 : World} {L : List Hd} {xs : List Value} (hown : w1.ownsRow w.heap.size 97 4 (.slice (some ⟨w.heap.size, 0, none⟩) L.length L.length) L.length xs) (hgrow : w.grownBy w1 none) : HFilled w.heap.size L 0 w w1 := by
  refine ⟨(Below.refl _ _).grown hgrow (Nat.le_refl _) (by simp), ?_, ?_, ?_, fun j hj => by omega⟩
  · rcases hown.2 with ⟨h, _⟩ | ⟨g, cap, cur, h, _, hg, _⟩
    · simp at h
    · simp only [Value.slice.injEq, Option.some.injEq, Addr.mk.injEq, and_true, true_and] at h
      obtain ⟨rfl, _⟩ := h
      exact (Array.getElem?_eq_some_iff.1 hg).1
  · intro j hj
    have hx := hown.1
    rw [hown.cellAt j (by omega)]
    exact ⟨xs[j]'(by omega), List.getElem?_eq_getElem (by omega)⟩
  · intro j hj
    exact hown.frozenAt j
theorem HFilled.below {B : Nat} {L : List Hd} {k : Nat} {w wr w2 : World} (h : HFilled B L k w wr) (b : Below wr.heap.size wr w2) : HFilled B L k w w2 := by
  obtain ⟨h1, h2, h3, h4, h5⟩ := h
  have hb := b.block _ h2
  refine ⟨h1.trans (b.mono (Nat.le_of_lt h2)), Nat.lt_of_lt_of_le h2 b.size, fun j hj => ?_, fun j hj => ?_, fun j hj => (h5 j hj).of_block hb⟩
  · obtain ⟨u, hu⟩ := h3 j hj
    exact ⟨u, (World.cell?_of_block (a := ⟨B, j, none⟩) hb).trans hu⟩
  · exact (World.frozen?_of_block (a := ⟨B, j, none⟩) hb).trans (h4 j hj)
/-- Four cells written one behind the other. -/
def World.put4 (w : World) (b o : Nat) (h : Hd) : World :=
  (((w.setCell ⟨b, o, none⟩ (.int .i64 h.a)).setCell ⟨b, o + 1, none⟩ (.int .i64 h.v)).setCell ⟨b, o + 2, none⟩ (.int .i64 h.p)).setCell ⟨b, o + 3, none⟩ (.int .i64 h.l)
theorem cell_put4_ne {w : World} {b o i : Nat} {h : Hd} (hi : i < o ∨ o + 3 < i) : (World.put4 w b o h).cell? ⟨b, i, none⟩ = w.cell? ⟨b, i, none⟩ := by
  unfold World.put4
  rw [cell_set_ne (by omega), cell_set_ne (by omega), cell_set_ne (by omega), cell_set_ne (by omega)]
theorem cell_put4_some {w : World} {b o i : Nat} {h : Hd} (hi : ∃ u, w.cell? ⟨b, i, none⟩ = some u) : ∃ u, (World.put4 w b o h).cell? ⟨b, i, none⟩ = some u := by
  unfold World.put4
  exact cell?_setCell_some (cell?_setCell_some (cell?_setCell_some (cell?_setCell_some hi.choose_spec).choose_spec).choose_spec).choose_spec
theorem frozen_put4 {w : World} {b o i : Nat} {h : Hd} : (World.put4 w b o h).frozen? ⟨b, i, none⟩ = w.frozen? ⟨b, i, none⟩ := by
  unfold World.put4
  simp
theorem hat_put4 {w : World} {b o : Nat} {h : Hd} (hu : ∀ j, j < 4 → ∃ u, w.cell? ⟨b, o + j, none⟩ = some u) : HAt (World.put4 w b o h) b o h := by
  have e0 := hu 0 (by omega)
  have e1 := hu 1 (by omega)
  have e2 := hu 2 (by omega)
  have e3 := hu 3 (by omega)
  unfold World.put4
  refine ⟨?_, ?_, ?_, ?_⟩
  · rw [cell_set_ne (by omega), cell_set_ne (by omega), cell_set_ne (by omega)]
    exact cell_set_same e0
  · rw [cell_set_ne (by omega), cell_set_ne (by omega)]
    exact cell_set_same (cell?_setCell_some e1.choose_spec)
  · rw [cell_set_ne (by omega)]
    exact cell_set_same (cell?_setCell_some (cell?_setCell_some e2.choose_spec).choose_spec)
  · exact cell_set_same (cell?_setCell_some (cell?_setCell_some (cell?_setCell_some e3.choose_spec).choose_spec).choose_spec)
theorem below_put4 {B : Nat} {w wr : World} (hb : Below B w wr) {b : Nat} (h : B ≤ b) (o : Nat) (x : Hd) : Below B w (World.put4 wr b o x) :=
  (((hb.setCell h _).setCell h _).setCell h _).setCell h _
theorem size_put4 {w : World} {b o : Nat} {h : Hd} : (World.put4 w b o h).heap.size = w.heap.size := by
  unfold World.put4
  simp
theorem HFilled.step {B : Nat} {L : List Hd} {k : Nat} {w wr : World} (h : HFilled B L k w wr) (hk : k < L.length) : HFilled B L (k + 1) w (World.put4 wr B (k * 4) (L.getD k Hd.nil)) := by
  obtain ⟨h1, h2, h3, h4, h5⟩ := h
  refine ⟨below_put4 h1 (Nat.le_refl _) _ _, by rw [size_put4]; exact h2, fun j hj => cell_put4_some (h3 j hj), fun j hj => by rw [frozen_put4]; exact h4 j hj, fun j hj => ?_⟩
  by_cases e : j = k
  · subst e
    exact hat_put4 fun i hi => h3 _ (by omega)
  · obtain ⟨q0, q1, q2, q3⟩ := h5 j (by omega)
    exact ⟨(cell_put4_ne (by omega)).trans q0, (cell_put4_ne (by omega)).trans q1, (cell_put4_ne (by omega)).trans q2, (cell_put4_ne (by omega)).trans q3⟩
set_option maxHeartbeats 400000 in
theorem toHS (ad : Option Addr) (cap : Nat) (L : List Hd) (w : World) (hv : HView w ad L) (hl : L.length ≤ 1048576) (hB : HIs ad L (· < w.heap.size)) :
    Calls Tryz.prog 68 #[.slice ad L.length cap] w fun e w' => e = .returned (.slice (some ⟨w.heap.size, 0, none⟩) L.length L.length) ∧ HFilled w.heap.size L L.length w w' := by
  obtain ⟨i0, hi, hz0, hz1, hz2⟩ := info_parts Tryz.info97'
  go_enter Tryz.func68, Tryz.ntmps68
  go_wp2_with (first | (refine wpList_make_full _ rfl _ _ 26 rfl w.heap.size 97 i0 (.agg #[.int .i64 0, .int .i64 0, .int .i64 0, .int .i64 0]) 4 Tryz.underlying26 hi hz0 hz1 .i64 .i64 _ _ L.length rfl rfl rfl rfl ?c1 ?c2 ?c3 ?_))
  case c1 => rw [hz2]; omega
  case c2 => unfold maxLen; omega
  case c3 => exact Nat.le_refl _
  intro w1 hown hgrow
  have F0 : HFilled w.heap.size L 0 w w1 := hfilled_made hown hgrow
  clear hown hgrow
  go_wp2
  go_loopw [4] (fun i wr => ∃ k : Nat, k ≤ L.length ∧ i = .int .i64 k ∧ HFilled w.heap.size L k w wr) (fun i _ => L.length - (intOf i).toNat)
  case atStart => exact ⟨0, Nat.zero_le _, rfl, F0⟩
  case round =>
    obtain ⟨k, hk, rfl, F⟩ := hrel
    clear F0
    by_cases hlt : k < L.length
    · obtain ⟨b, off, rfl, hc⟩ := hv (by omega)
      have hck : HAt wr b (off + k * 4) (L.getD k Hd.nil) := (hc k hlt).of_block (F.1.block _ (hB ⟨b, off, none⟩ rfl (by omega)))
      obtain ⟨h, hh⟩ : ∃ h, L.getD k Hd.nil = h := ⟨_, rfl⟩
      rw [hh] at hck
      obtain ⟨c1, c2, c3, c4⟩ := hck
      clear hc
      go_wp2_with fail
      go_at_call 112
      refine (toHd h.a h.v h.p h.l wr).mono ?_
      rintro e w2 ⟨rfl, k2⟩
      have G := F.below k2
      obtain ⟨u0, hu0⟩ := G.2.2.1 (k * 4) (by omega)
      obtain ⟨u1, hu1⟩ := G.2.2.1 (k * 4 + 1) (by omega)
      obtain ⟨u2, hu2⟩ := G.2.2.1 (k * 4 + 2) (by omega)
      obtain ⟨u3, hu3⟩ := G.2.2.1 (k * 4 + 3) (by omega)
      have f0 := G.2.2.2.1 (k * 4) (by omega)
      have f1 := G.2.2.2.1 (k * 4 + 1) (by omega)
      have f2 := G.2.2.2.1 (k * 4 + 2) (by omega)
      have f3 := G.2.2.2.1 (k * 4 + 3) (by omega)
      have G1 := G.step hlt
      clear F G
      rw [hh] at G1
      clear hh
      go_wp2
      go_roundw
      case rel => exact ⟨k + 1, by omega, by go_num, G1⟩
      case measure => simp [intOf]; omega
    · obtain rfl : k = L.length := by omega
      go_wp2
      go_ret
      exact ⟨rfl, F⟩

end Go.Proofs.YtifndemkkaelaaaGreat
