/- Lists of bridges: how they come in. Nets: how they come in. Lists of bridges, compared. Nets, compared. The small functions of NetOk, walked. -/
import Derived.Test.YtemibefbkjpnaaaGreatRows
import Derived.WalkKit
import Derived.ProofKit
import Derived.OpenShut
import Derived.ShutString
import Derived.ChangeOld
import Derived.Below
import Derived.Deep.QuietTactic
import Derived.BigQuiet
import Derived.WalkSmall
import Derived.Laws.OwnMore
import Derived.WalkSpells
import Derived.WalkLawsBesides
import Derived.Deep.Slices
import Derived.Lib.SmallJoins
import Derived.Test.YtemibefbkjpnaaaGreatM4
import Derived.Test.YtemibefbkjpnaaaGreatM2
import Derived.Laws.StructEq
import Derived.Test.YtemibefbkjpnaaaGreatM3
namespace Go.Proofs.YtemibefbkjpnaaaGreat
open Go.ChangeShapes Go.WideShapes Go.ChangeAt Go.RowKit
open Go.ChangeMaps (open_string shut_string)
set_option linter.unusedVariables false
set_option maxRecDepth 100000

set_option maxRecDepth 100000 in
theorem bdRow_open {H : Type} {enc : TypeId × Value → H} {w : World} {n0 : Nat} {v : Value} {x : DataW H × List MemPlace} (hn : DataW.trod enc Tryz.prog w 0 (fun _ => true) true n0 60 [v] = some x) :
    ∃ ad cap, ∃ Bs : List Bd, v = .slice ad Bs.length cap ∧ Bs.length ≤ maxLen ∧ NV w ad Bs ∧ (∀ i, i < Bs.length → (Bs.getD i Bd.nil).L.length ≤ maxLen) ∧ (ad = none → cap = 0) := by
  have hs := Go.Deep.open_slice Tryz.underlying60 hn
  have hcell : ∀ x, [v] = [x] → v = x := fun x h => by simpa using h
  rcases hs with ⟨hcs, _⟩ | ⟨a, len, cap, m, n, D, Pl, hcs, _, hl, hm, hmm, _, hx⟩
  · exact ⟨none, 0, [], hcell _ hcs, by simp, NV.nil, fun i h => absurd h (by simp), fun _ => rfl⟩
  · simp at hmm
    subst hmm
    have each : ∀ i, i < m → ∃ q : Bd, w.cell? (a.add (i * 2)) = some (.int .i64 q.id) ∧ w.cell? (a.add (i * 2 + 1)) = some (.slice q.ad q.L.length q.cap) ∧ FView ptEnc w q.ad q.L ∧ q.L.length ≤ maxLen ∧ (q.ad = none → q.cap = 0) := by
      intro i hi
      obtain ⟨cs', h1, h2⟩ := hx i hi
      rw [(by kernel_rfl : Tryz.prog.cellsOf 151 = 2)] at h1
      obtain ⟨_, hlen, hc⟩ := World.cells?_some h1
      obtain ⟨xs, k, hk, hxy, _, hxl, hf⟩ := DataW.trod_struct Tryz.underlying151 h2
      match xs, hxl, cs', hlen with
      | [y0, y1], _, [c0, c1], _ =>
        have g0 : DataW.trod enc Tryz.prog w 0 (fun _ => true) true k 3 ((List.drop 0 [c0, c1]).take (Tryz.prog.cellsOf 3)) = some y0 := hf 0 _ rfl
        have g1 : DataW.trod enc Tryz.prog w 0 (fun _ => true) true k 149 ((List.drop 1 [c0, c1]).take (Tryz.prog.cellsOf 149)) = some y1 := hf 1 _ rfl
        rw [(by kernel_rfl : Tryz.prog.cellsOf 3 = 1)] at g0
        rw [(by kernel_rfl : Tryz.prog.cellsOf 149 = 1)] at g1
        obtain ⟨z0, e0, _, w0⟩ := DataW.trod_int Tryz.underlying3 g0
        simp at e0
        subst e0
        have k0 := hc 0 (by omega)
        have k1 := hc 1 (by omega)
        rw [Go.Deep.add_add] at k0 k1
        obtain ⟨ad, cp, L, e1, hm, hV, hz⟩ := ptRow_open (by simpa using g1)
        subst e1
        exact ⟨⟨z0, ad, cp, L⟩, by simpa using k0, by simpa using k1, hV, hm, hz⟩
    haveI : Inhabited Bd := ⟨Bd.nil⟩
    obtain ⟨q, hq⟩ := Go.Deep.choose_lt each
    have hg : ∀ i, i < len → ((List.range len).map q).getD i Bd.nil = q i := fun i hi => by simp [List.getD, hi]
    refine ⟨some a, m, (List.range len).map q, by simpa using hcell _ hcs, by simpa using Nat.le_trans hl hm, ⟨fun hp => ?_, fun i hi => ?_, fun i hi => ?_⟩, fun i hi => ?_, fun e => by cases e⟩
    · simp at hp
      obtain ⟨b, off, spot⟩ := a
      have hspot : spot = none := by simpa [Addr.add] using World.cell?_spot (hq 0 (by omega)).1
      subst hspot
      refine ⟨b, off, rfl, fun j v hv => ?_⟩
      have hjl : j < len * 2 := by
        have := (List.getElem?_eq_some_iff.1 hv).1
        rw [fcells_len bdEnc_len] at this
        simpa using this
      have hi : j / 2 < len := by omega
      have hr : j % 2 < 2 := Nat.mod_lt _ (by omega)
      have e : j = j / 2 * 2 + j % 2 := by omega
      rw [e, fcells_at bdEnc_len Bd.nil _ _ _ (by simpa using hi) hr, hg _ hi] at hv
      obtain ⟨k0, k1, _⟩ := hq (j / 2) (by omega)
      simp only [add_plain] at k0 k1
      rw [e]
      generalize j % 2 = r at hv hr
      have hcase : r = 0 ∨ r = 1 := by omega
      rcases hcase with rfl | rfl
      · cases hv; simpa [Nat.add_assoc] using k0
      · cases hv; simpa [Nat.add_assoc] using k1
    · simp at hi
      rw [hg i hi]
      exact (hq i (by omega)).2.2.1
    · simp at hi
      rw [hg i hi]
      exact (hq i (by omega)).2.2.2.2
    · simp at hi
      rw [hg i hi]
      exact (hq i (by omega)).2.2.2.1
/-- How much the first j count. -/
def lTo (Bs : List Bd) : Nat → Nat
  | 0 => 0
  | j + 1 => lTo Bs j + (Bs.getD j Bd.nil).L.length
theorem lTo_mono (Bs : List Bd) {i j : Nat} (h : i ≤ j) : lTo Bs i ≤ lTo Bs j := by
  induction h with
  | refl => exact Nat.le_refl _
  | step _ ih => exact Nat.le_trans ih (by show _ ≤ lTo Bs _ + _; omega)
theorem getL_le (Bs : List Bd) {k : Nat} (h : k < Bs.length) : (Bs.getD k Bd.nil).L.length ≤ lTo Bs Bs.length :=
  Nat.le_trans (by show _ ≤ lTo Bs k + (Bs.getD k Bd.nil).L.length; omega) (lTo_mono Bs (i := k + 1) h)
set_option maxHeartbeats 1000000 in
theorem bdSz (ad : Option Addr) (cap : Nat) (Bs : List Bd) (l : Int) (w : World) (hv : NV w ad Bs) (hl0 : 0 ≤ l) (hl1 : l ≤ 1048576) (hm : Bs.length ≤ maxLen) (hms : ∀ i, i < Bs.length → (Bs.getD i Bd.nil).L.length ≤ maxLen) :
    Calls Tryz.prog 78 #[.slice ad Bs.length cap, .int .i64 l] w fun e w' => e = .returned (.int .i64 (if ((Bs.length + lTo Bs Bs.length : Nat) : Int) ≤ l then l - ((Bs.length + lTo Bs Bs.length : Nat) : Int) else -1)) ∧ Below w.heap.size w w' := by
  unfold maxLen at hm
  by_cases h0 : (Bs.length : Int) ≤ l
  rotate_left
  · have h1 : l - (Bs.length : Int) < 0 := by omega
    have hr : Hid ((if ((Bs.length + lTo Bs Bs.length : Nat) : Int) ≤ l then l - ((Bs.length + lTo Bs Bs.length : Nat) : Int) else -1) = (-1 : Int)) := if_neg (by omega)
    rw [hr.out]
    clear hr
    go_enter Tryz.func78, Tryz.ntmps78
    go_wp2
    go_ret
    exact ⟨rfl, Below.refl _ _⟩
  · have h1 : 0 ≤ l - (Bs.length : Int) := by omega
    have h1' : ¬ l - (Bs.length : Int) < 0 := by omega
    obtain ⟨R, hR⟩ : ∃ R, Hid ((if ((Bs.length + lTo Bs Bs.length : Nat) : Int) ≤ l then l - ((Bs.length + lTo Bs Bs.length : Nat) : Int) else -1) = R) := ⟨_, rfl⟩
    rw [hR.out]
    go_enter Tryz.func78, Tryz.ntmps78
    go_wp2
    go_loopw [1, 5] (fun q i wr => ∃ (k : Nat) (x : Int), k ≤ Bs.length ∧ i = .int .i64 k ∧ q = .int .i64 x ∧ Hid (x = l - (Bs.length : Int) - (lTo Bs k : Int)) ∧ 0 ≤ x ∧ x ≤ 1048576 ∧ Below w.heap.size w wr) (fun _ i _ => Bs.length - (intOf i).toNat)
    case atStart => exact ⟨0, l - (Bs.length : Int), Nat.zero_le _, rfl, rfl, by unfold Hid; simp [lTo], h1, by omega, Below.refl _ _⟩
    case round =>
      obtain ⟨k, x, hk, rfl, rfl, hx, hx0, hx1, hb⟩ := hrel
      clear h0 h1 h1'
      by_cases hlt : k < Bs.length
      · obtain ⟨b, off, rfl⟩ := hv.ad_ (by omega)
        have hck := (hv.below hb (Nat.le_refl _)).at_ hlt
        have hmk := hms k hlt
        have hnx : Hid (lTo Bs (k + 1) = lTo Bs k + (Bs.getD k Bd.nil).L.length) := rfl
        have hmo : Hid (lTo Bs (k + 1) ≤ lTo Bs Bs.length) := lTo_mono Bs (by omega)
        obtain ⟨m, hh⟩ : ∃ m, Bs.getD k Bd.nil = m := ⟨_, rfl⟩
        rw [hh] at hck hmk hnx
        obtain ⟨c1, c2⟩ := hck
        clear hv hms hh
        go_wp2_with fail
        go_at_call 111
        refine (brSz m.id m.ad m.L.length m.cap x wr hx0 hx1 hmk).mono ?_
        rintro e w2 ⟨rfl, k2⟩
        have b2 := hb.trans (k2.mono hb.size)
        by_cases hy : (m.L.length : Int) ≤ x
        · rw [if_pos hy]
          have hz : 0 ≤ x - (m.L.length : Int) := by omega
          have hz' : ¬ x - (m.L.length : Int) < 0 := by omega
          go_wp2
          go_roundw
          case rel => exact ⟨k + 1, x - (m.L.length : Int), by omega, by go_num, rfl, by have := hx.out; have := hnx.out; unfold Hid; omega, hz, by omega, b2⟩
          case measure => simp [intOf]; omega
        · rw [if_neg hy]
          go_wp2
          go_ret
          refine ⟨?_, b2⟩
          have h1 := hx.out
          have h2 := hnx.out
          have h3 := hmo.out
          rw [← hR.out, if_neg (by omega)]
          rfl
      · obtain rfl : k = Bs.length := by omega
        go_wp2
        go_ret
        refine ⟨?_, hb⟩
        have h1 := hx.out
        have h2 : x = l - ((Bs.length + lTo Bs Bs.length : Nat) : Int) := by omega
        rw [← hR.out, if_pos (by omega), ← h2]
        rfl

end Go.Proofs.YtemibefbkjpnaaaGreat
namespace Go.Proofs.YtemibefbkjpnaaaGreat
open Go.ChangeShapes Go.WideShapes Go.ChangeAt Go.RowKit
open Go.ChangeMaps (open_string shut_string)
set_option linter.unusedVariables false
set_option maxRecDepth 100000

/-- A box of two cells. -/
structure NeAt (w : World) (q : Nat) (v0 v1 : Value) : Prop where
  c0 : w.cell? ⟨q, 0, none⟩ = some v0
  c1 : w.cell? ⟨q, 1, none⟩ = some v1
theorem NeAt.keep {w w' : World} {q : Nat} {v0 v1 : Value} (h : NeAt w q v0 v1) (k : w'.heap[q]? = w.heap[q]?) : NeAt w' q v0 v1 :=
  ⟨(World.cell?_of_block (a := ⟨q, 0, none⟩) k).trans h.c0, (World.cell?_of_block (a := ⟨q, 1, none⟩) k).trans h.c1⟩
theorem NeAt.below {w w' : World} {q n : Nat} {v0 v1 : Value} (h : NeAt w q v0 v1) (k : Below n w w') (hq : q < n) : NeAt w' q v0 v1 := h.keep (k.block q hq)
theorem NeAt.lt {w : World} {q : Nat} {v0 v1 : Value} (h : NeAt w q v0 v1) : q < w.heap.size := World.block_lt_of_cell? w _ h.c0
theorem NeAt.new (w : World) (t : TypeId) {v0 v1 : Value} : NeAt (w.alloc (Obj.cells #[v0, v1] t)) w.heap.size v0 v1 := by
  refine ⟨?_, ?_⟩ <;> simp [go_sem]
/-- What is known of a net that comes in. -/
structure NetIn (w : World) (adB : Option Addr) (capB : Nat) (Bs : List Bd) (adK : Option Addr) (capK : Nat) (K : List Lk) : Prop where
  lb : Bs.length ≤ maxLen
  vb : NV w adB Bs
  ls : ∀ i, i < Bs.length → (Bs.getD i Bd.nil).L.length ≤ maxLen
  nb : adB = none → capB = 0
  lk : K.length ≤ maxLen
  vk : FView lkEnc w adK K
  nk : adK = none → capK = 0
set_option maxRecDepth 100000 in
theorem netIn_open {H : Type} {enc : TypeId × Value → H} {w : World} {r : Reach} {b0 : Nat} {v : Value} {d : DataW H} {p : List MemPlace} (hv : Value.okWide Tryz.prog w r b0 62 v) (h : DataW.Trod enc Tryz.prog w 0 (fun _ => true) true 62 v d p) :
    ∃ adB capB Bs adK capK K, v = .agg #[.slice adB (List.length Bs) capB, .slice adK (List.length K) capK] ∧ NetIn w adB capB Bs adK capK K := by
  obtain ⟨v0, v1, y0, y1, n, rfl, _, _, h0, h1⟩ := Go.Joins.open_agg2 Tryz.underlying62 (by kernel_rfl) (by kernel_rfl) hv h
  obtain ⟨adB, capB, Bs, rfl, m1, m2, m3, m4⟩ := bdRow_open h0
  obtain ⟨adK, capK, K, rfl, k1, k2, k3⟩ := lkRow_open h1
  exact ⟨adB, capB, Bs, adK, capK, K, rfl, m1, m2, m3, m4, k1, k2, k3⟩
set_option maxHeartbeats 1000000 in
theorem neSz (adB : Option Addr) (capB : Nat) (Bs : List Bd) (adK : Option Addr) (capK : Nat) (K : List Lk) (l : Int) (w : World) (I : NetIn w adB capB Bs adK capK K) (h0 : 0 ≤ l) (h1 : l ≤ 1048576) :
    Calls Tryz.prog 36 #[.agg #[.slice adB Bs.length capB, .slice adK K.length capK], .int .i64 l] w fun e w' => (∃ r : Int, e = .returned (.int .i64 r) ∧ r ≤ 1048576 ∧ (0 ≤ r → Bs.length ≤ 1048576 ∧ lTo Bs Bs.length ≤ 1048576 ∧ K.length ≤ 1048576)) ∧ Below w.heap.size w w' := by
  obtain ⟨lb, vb, ls, nb, lk, vk, nk⟩ := I
  obtain ⟨y, hy⟩ : ∃ y, y = w.alloc (Obj.cells #[.slice adB Bs.length capB, .slice adK K.length capK] 62) := ⟨_, rfl⟩
  have B0 : Below w.heap.size w y := by rw [hy]; exact below_new _
  have A0 : NeAt y w.heap.size (.slice adB Bs.length capB) (.slice adK K.length capK) := by rw [hy]; exact NeAt.new w _
  have l0 := A0.lt
  go_enter Tryz.func36, Tryz.ntmps36
  go_wp2_with fail
  go_at_call 78
  rw [← hy]
  clear hy
  refine (bdSz adB capB Bs l y (vb.below B0 (Nat.le_refl _)) h0 h1 lb ls).mono ?_
  rintro e w1 ⟨rfl, k1⟩
  have B1 := B0.trans (k1.mono B0.size)
  have A1 := A0.below k1 l0
  clear A0 B0 k1 vb nb nk
  by_cases hb : ((Bs.length + lTo Bs Bs.length : Nat) : Int) ≤ l
  rotate_left
  · rw [if_neg hb]
    go_wp2
    go_ret
    exact ⟨⟨-1, rfl, by omega, fun h => by omega⟩, B1⟩
  rw [if_pos hb]
  obtain ⟨x, hx⟩ : ∃ x, x = l - ((Bs.length + lTo Bs Bs.length : Nat) : Int) := ⟨_, rfl⟩
  have x0 : 0 ≤ x := by omega
  have x1 : x ≤ 1048576 := by omega
  have x2 : Hid (Bs.length ≤ 1048576 ∧ lTo Bs Bs.length ≤ 1048576) := ⟨by omega, by omega⟩
  rw [← hx]
  clear hx hb
  have xn : ¬ x < 0 := by omega
  obtain ⟨c0, c1⟩ := A1
  go_wp2_with fail
  go_at_call 26
  refine (lkSz adK K.length capK x w1 x0 x1 lk).mono ?_
  rintro e w2 ⟨rfl, rfl⟩
  by_cases hk : (K.length : Int) ≤ x
  · rw [if_pos hk]
    have hn : ¬ x - (K.length : Int) < 0 := by omega
    go_wp2
    go_ret
    exact ⟨⟨_, rfl, by omega, fun _ => ⟨x2.out.1, x2.out.2, by omega⟩⟩, B1⟩
  · rw [if_neg hk]
    go_wp2
    go_ret
    exact ⟨⟨-1, rfl, by omega, fun h => by omega⟩, B1⟩

end Go.Proofs.YtemibefbkjpnaaaGreat
namespace Go.Proofs.YtemibefbkjpnaaaGreat
open Go.ChangeShapes Go.WideShapes Go.ChangeAt Go.RowKit
open Go.ChangeMaps (open_string shut_string)
set_option linter.unusedVariables false
set_option maxRecDepth 100000

set_option maxHeartbeats 1000000 in
theorem bdEq (ad ad' : Option Addr) (cap cap' : Nat) (Bs Bs' : List Bd) (w : World) (hv : NV w ad Bs) (hv' : NV w ad' Bs') (hd : Bs'.map Bd.d = Bs.map Bd.d) (hl : Bs.length ≤ 1048576) (hls : ∀ i, i < Bs.length → (Bs.getD i Bd.nil).L.length ≤ 1048576) :
    Calls Tryz.prog 73 #[.slice ad Bs.length cap, .slice ad' Bs'.length cap'] w fun e w' => e = .returned (.bool true) ∧ Below w.heap.size w w' := by
  have hlen : Bs'.length = Bs.length := by have := congrArg List.length hd; simpa using this
  have hsame : ∀ i, (Bs'.getD i Bd.nil).id = (Bs.getD i Bd.nil).id ∧ (Bs'.getD i Bd.nil).L = (Bs.getD i Bd.nil).L := fun i => by
    have := congrArg (fun D => D.getD i Bg.nil) hd
    simp only [bd_get] at this
    simpa [Bd.d] using this
  rw [hlen]
  go_enter Tryz.func73, Tryz.ntmps73
  go_wp2
  go_loopw [5] (fun i wr => ∃ k : Nat, k ≤ Bs.length ∧ i = .int .i64 k ∧ Below w.heap.size w wr) (fun i _ => Bs.length - (intOf i).toNat)
  case atStart => exact ⟨0, Nat.zero_le _, rfl, Below.refl _ _⟩
  case round =>
    obtain ⟨k, hk, rfl, hb⟩ := hrel
    by_cases hlt : k < Bs.length
    · obtain ⟨b, off, rfl⟩ := hv.ad_ (by omega)
      obtain ⟨b', off', rfl⟩ := hv'.ad_ (by omega)
      have hlk := hls k hlt
      have hn : ∀ Y, Below w.heap.size w Y → FView ptEnc Y (Bs.getD k Bd.nil).ad (Bs.getD k Bd.nil).L := fun Y hY => (hv.below hY (Nat.le_refl _)).nest k hlt
      have hn' : ∀ Y, Below w.heap.size w Y → FView ptEnc Y (Bs'.getD k Bd.nil).ad (Bs'.getD k Bd.nil).L := fun Y hY => (hv'.below hY (Nat.le_refl _)).nest k (by omega)
      have hc : ∀ Y, Below w.heap.size w Y → BdAtO Y b (off + k * 2) (Bs.getD k Bd.nil) := fun Y hY => (hv.below hY (Nat.le_refl _)).at_ hlt
      have hc' : ∀ Y, Below w.heap.size w Y → BdAtO Y b' (off' + k * 2) (Bs'.getD k Bd.nil) := fun Y hY => (hv'.below hY (Nat.le_refl _)).at_ (by omega)
      obtain ⟨e1, e2⟩ := hsame k
      obtain ⟨⟨id, a1, c1, L1⟩, hh⟩ : ∃ m, Bs.getD k Bd.nil = m := ⟨_, rfl⟩
      obtain ⟨⟨id', a2, c2, L2⟩, hh'⟩ : ∃ m, Bs'.getD k Bd.nil = m := ⟨_, rfl⟩
      rw [hh] at e1 e2 hlk
      rw [hh'] at e1 e2
      simp only [hh] at hn hc
      simp only [hh'] at hn' hc'
      dsimp only at e1 e2 hlk hn hn'
      subst e1 e2
      clear hh hh' hv hv' hsame hls hd hlen
      go_wp2_with fail
      refine wp_region_held (S := fun Y => Below w.heap.size w Y) (by kernel_rfl) ?_
      change wpAnyH _ _ _ _ _ _ _ _ (World.drew _)
      have hb0 : Below w.heap.size w wr.drew := hb.drew
      refine takeW 0 17 (.slice (some ⟨b, off, none⟩) Bs.length cap) rfl rfl (by kernel_rfl) (by kernel_rfl) (by kernel_rfl) (fun _ _ _ h => h) (by kernel_rfl) (by (intro w hSw; go_simp)) (by assumption) ?_
      simp only [List.set_cons_zero, List.set_cons_succ]
      refine takeW 1 18 (.int .i64 k) rfl rfl (by kernel_rfl) (by kernel_rfl) (by kernel_rfl) (fun _ _ _ h => h) (by kernel_rfl) (by (intro w hSw; go_simp)) (by assumption) ?_
      simp only [List.set_cons_zero, List.set_cons_succ]
      refine takeW 2 19 (.pointer (some ⟨b, off + k * 2, none⟩)) rfl rfl (by kernel_rfl) (by kernel_rfl) (by kernel_rfl) (fun _ _ _ h => h) (by kernel_rfl) (by (intro Y hSw; go_simp; try omega)) (by assumption) ?_
      simp only [List.set_cons_zero, List.set_cons_succ]
      refine takeW 3 20 (.agg #[.int .i64 id', .slice a1 L2.length c1]) rfl rfl (by kernel_rfl) (by kernel_rfl) (by kernel_rfl) (fun _ _ _ h => h) (by kernel_rfl) (by (intro Y hSw; obtain ⟨X1, X2⟩ := hc Y hSw; go_simp)) (by assumption) ?_
      simp only [List.set_cons_zero, List.set_cons_succ]
      refine takeW 4 21 (.slice (some ⟨b', off', none⟩) Bs.length cap') rfl rfl (by kernel_rfl) (by kernel_rfl) (by kernel_rfl) (fun _ _ _ h => h) (by kernel_rfl) (by (intro w hSw; go_simp)) (by assumption) ?_
      simp only [List.set_cons_zero, List.set_cons_succ]
      refine takeW 5 22 (.int .i64 k) rfl rfl (by kernel_rfl) (by kernel_rfl) (by kernel_rfl) (fun _ _ _ h => h) (by kernel_rfl) (by (intro w hSw; go_simp)) (by assumption) ?_
      simp only [List.set_cons_zero, List.set_cons_succ]
      refine takeW 6 23 (.pointer (some ⟨b', off' + k * 2, none⟩)) rfl rfl (by kernel_rfl) (by kernel_rfl) (by kernel_rfl) (fun _ _ _ h => h) (by kernel_rfl) (by (intro Y hSw; go_simp; try omega)) (by assumption) ?_
      simp only [List.set_cons_zero, List.set_cons_succ]
      refine takeW 7 24 (.agg #[.int .i64 id', .slice a2 L2.length c2]) rfl rfl (by kernel_rfl) (by kernel_rfl) (by kernel_rfl) (fun _ _ _ h => h) (by kernel_rfl) (by (intro Y hSw; obtain ⟨X1, X2⟩ := hc' Y hSw; go_simp)) (by assumption) ?_
      simp only [List.set_cons_zero, List.set_cons_succ]
      refine wpAnyH_all (rs := [8]) (by kernel_rfl) (by simp) ?_
      intro i hi; obtain rfl : i = 8 := by simpa using hi
      refine wpOp_step rfl (fun K hK => ?_)
      rw [if_pos (by kernel_rfl)]
      go_simp
      go_at_call 108
      refine (brEq id' a1 a2 c1 c2 L2 _ (hn _ hb0) (hn' _ hb0) hlk).mono ?_
      rintro e y1 ⟨rfl, j1⟩
      have hb1 : Below w.heap.size w y1 := hb0.trans (j1.mono hb0.size)
      refine hK _ _ ⟨hb1, ?_⟩
      clear hK K hi
      refine takeW 9 26 (.bool false) rfl rfl (by kernel_rfl) (by kernel_rfl) (by kernel_rfl) (fun _ _ _ h => h) (by kernel_rfl) (by (intro w hSw; go_simp)) (by assumption) ?_
      simp only [List.set_cons_zero, List.set_cons_succ]
      refine wpAnyH_done (by kernel_rfl) ?_ _
      go_wp2
      go_roundw
      case rel => exact ⟨k + 1, by omega, by go_num, hb1⟩
      case measure => simp [intOf]; omega
    · obtain rfl : k = Bs.length := by omega
      go_wp2
      go_ret
      exact ⟨rfl, hb⟩

end Go.Proofs.YtemibefbkjpnaaaGreat
namespace Go.Proofs.YtemibefbkjpnaaaGreat
open Go.ChangeShapes Go.WideShapes Go.ChangeAt Go.RowKit
open Go.ChangeMaps (open_string shut_string)
set_option linter.unusedVariables false
set_option maxRecDepth 100000

set_option maxHeartbeats 1000000 in
theorem neEq (adB adB' : Option Addr) (capB capB' : Nat) (Bs Bs' : List Bd) (adK adK' : Option Addr) (capK capK' : Nat) (K : List Lk) (w : World) (vb : NV w adB Bs) (vb' : NV w adB' Bs') (hd : Bs'.map Bd.d = Bs.map Bd.d) (vk : FView lkEnc w adK K) (vk' : FView lkEnc w adK' K) (hl : Bs.length ≤ 1048576) (hls : ∀ i, i < Bs.length → (Bs.getD i Bd.nil).L.length ≤ 1048576) (hk : K.length ≤ 1048576) :
    Calls Tryz.prog 29 #[.agg #[.slice adB Bs.length capB, .slice adK K.length capK], .agg #[.slice adB' Bs'.length capB', .slice adK' K.length capK']] w fun e w' => e = .returned (.bool true) ∧ Below w.heap.size w w' := by
  have hkB := vk.lt lkEnc_len (by omega)
  have hkB' := vk'.lt lkEnc_len (by omega)
  obtain ⟨y, hy⟩ : ∃ y, y = (w.alloc (Obj.cells #[.slice adB Bs.length capB, .slice adK K.length capK] 27)).alloc (Obj.cells #[.slice adB' Bs'.length capB', .slice adK' K.length capK'] 27) := ⟨_, rfl⟩
  have B0 : Below w.heap.size w y := by rw [hy]; exact ((Below.refl _ _).alloc (Nat.le_refl _) _).alloc (by simp) _
  have A0 : NeAt y w.heap.size (.slice adB Bs.length capB) (.slice adK K.length capK) := by rw [hy]; constructor <;> simp [go_sem]
  have A1 : NeAt y (w.heap.size + 1) (.slice adB' Bs'.length capB') (.slice adK' K.length capK') := by rw [hy]; constructor <;> simp [go_sem]
  have l1 := A1.lt
  go_enter Tryz.func29, Tryz.ntmps29
  go_wp2_with fail
  go_at_call 73
  rw [← hy]
  clear hy
  refine (bdEq adB adB' capB capB' Bs Bs' y (vb.below B0 (Nat.le_refl _)) (vb'.below B0 (Nat.le_refl _)) hd hl hls).mono ?_
  rintro e w1 ⟨rfl, k1⟩
  have B1 := B0.trans (k1.mono B0.size)
  obtain ⟨a0, a1⟩ := A0.below k1 (by omega)
  obtain ⟨c0, c1⟩ := A1.below k1 (by omega)
  clear A0 A1 k1 B0 vb vb' hd
  go_wp2_with fail
  go_at_call 31
  refine (lkEqS adK adK' capK capK' K w1 (vk.below B1 hkB) (vk'.below B1 hkB') hk).mono ?_
  rintro e w2 ⟨rfl, k2⟩
  have B2 := B1.trans (k2.mono B1.size)
  clear k2 B1
  go_wp2
  go_ret
  exact ⟨rfl, B2⟩

end Go.Proofs.YtemibefbkjpnaaaGreat
namespace Go.Proofs.YtemibefbkjpnaaaGreat
open Go.ChangeShapes Go.WideShapes Go.ChangeAt Go.RowKit
open Go.ChangeMaps (open_string shut_string)
set_option linter.unusedVariables false
set_option maxRecDepth 100000

theorem endsI (x : Lk) (w : World) :
    Calls Tryz.prog 63 #[.agg #[.int .i64 x.a, .int .i64 x.p, .int .i64 x.b, .int .i64 x.q]] w fun e w' => e = .returned (.agg #[.int .i64 x.a, .int .i64 x.p, .int .i64 x.b, .int .i64 x.q]) ∧ Below w.heap.size w w' := by
  go_enter Tryz.func63, Tryz.ntmps63
  go_wp2
  refine bodyPost_ret (v := .agg #[.int .i64 x.a, .int .i64 x.p, .int .i64 x.b, .int .i64 x.q]) (by simp [results, Tryz.results63, go_sem]) rfl ⟨rfl, ?_⟩
  exact ((Below.refl _ _).alloc (Nat.le_refl _) _).alloc (by simp) _
set_option maxHeartbeats 1000000 in
theorem hasIdI (ad : Option Addr) (cap : Nat) (Bs : List Bd) (m : Nat) (id : Int) (w : World) (hv : NV w ad Bs) (hm : m ≤ Bs.length) (hl : Bs.length ≤ 1048576) :
    Calls Tryz.prog 81 #[.slice ad m cap, .int .i64 id] w fun e w' => YN e (∃ k, k < m ∧ (Bs.getD k Bd.nil).id = id) ∧ Below w.heap.size w w' := by
  go_enter Tryz.func81, Tryz.ntmps81
  go_wp2
  go_loopw [9] (fun i wr => ∃ k : Nat, k ≤ m ∧ i = .int .i64 k ∧ Hid (∀ j, j < k → (Bs.getD j Bd.nil).id ≠ id) ∧ Below w.heap.size w wr) (fun i _ => m - (intOf i).toNat)
  case atStart => exact ⟨0, Nat.zero_le _, rfl, fun j hj => absurd hj (by omega), Below.refl _ _⟩
  case round =>
    obtain ⟨k, hk, rfl, hF, hb⟩ := hrel
    by_cases hlt : k < m
    · obtain ⟨b, off, rfl⟩ := hv.ad_ (by omega)
      have hck := (hv.below hb (Nat.le_refl _)).at_ (i := k) (by omega)
      obtain ⟨⟨id', a1, c1, L1⟩, hh⟩ : ∃ q, Bs.getD k Bd.nil = q := ⟨_, rfl⟩
      rw [hh] at hck
      obtain ⟨x1, x2⟩ := hck
      dsimp only at x1 x2
      replace hh : Hid _ := hh
      clear hv
      by_cases he : id' = id
      · have e1 : (id' == id) = true := by simp [he]
        have e2 : decide (id' = id) = true := decide_eq_true he
        replace he : Hid _ := he
        go_wp2
        go_ret
        exact ⟨YN.yes ⟨k, hlt, by rw [hh.out]; exact he.out⟩, hb.alloc hb.size _⟩
      · have e1 : (id' == id) = false := by simp [he]
        have e2 : decide (id' = id) = false := decide_eq_false he
        replace he : Hid _ := he
        go_wp2
        go_roundw
        case rel =>
          refine ⟨k + 1, by omega, by go_num, fun j hj => ?_, hb.alloc hb.size _⟩
          by_cases ej : j = k
          · rw [ej, hh.out]; exact he.out
          · exact hF.out j (by omega)
        case measure => simp [intOf]; omega
    · obtain rfl : k = m := by omega
      go_wp2
      go_ret
      exact ⟨YN.no (fun ⟨j, hj, ej⟩ => absurd ej (hF.out j hj)), hb⟩
theorem LkAtO.below {w w' : World} {q o n : Nat} {x : Lk} (h : LkAtO w q o x) (k : Below n w w') (hq : q < n) : LkAtO w' q o x :=
  ⟨(World.cell?_of_block (a := ⟨q, o, none⟩) (k.block q hq)).trans h.c0, (World.cell?_of_block (a := ⟨q, o + 1, none⟩) (k.block q hq)).trans h.c1, (World.cell?_of_block (a := ⟨q, o + 2, none⟩) (k.block q hq)).trans h.c2, (World.cell?_of_block (a := ⟨q, o + 3, none⟩) (k.block q hq)).trans h.c3⟩
/-- A box of two numbers. -/
structure EnAt (w : World) (q : Nat) (a p : Int) : Prop where
  c0 : w.cell? ⟨q, 0, none⟩ = some (.int .i64 a)
  c1 : w.cell? ⟨q, 1, none⟩ = some (.int .i64 p)
theorem EnAt.keep {w w' : World} {q : Nat} {a p : Int} (h : EnAt w q a p) (k : w'.heap[q]? = w.heap[q]?) : EnAt w' q a p :=
  ⟨(World.cell?_of_block (a := ⟨q, 0, none⟩) k).trans h.c0, (World.cell?_of_block (a := ⟨q, 1, none⟩) k).trans h.c1⟩
theorem EnAt.below {w w' : World} {q n : Nat} {a p : Int} (h : EnAt w q a p) (k : Below n w w') (hq : q < n) : EnAt w' q a p := h.keep (k.block q hq)
theorem EnAt.lt {w : World} {q : Nat} {a p : Int} (h : EnAt w q a p) : q < w.heap.size := World.block_lt_of_cell? w _ h.c0
theorem EnAt.new (w : World) (t : TypeId) (a p : Int) : EnAt (w.alloc (Obj.cells #[.int .i64 a, .int .i64 p] t)) w.heap.size a p := by
  refine ⟨?_, ?_⟩ <;> simp [go_sem]
theorem ixEnd0 (x : Lk) (w : World) : (Instr.index 92 (.agg #[.int .i64 x.a, .int .i64 x.p, .int .i64 x.b, .int .i64 x.q]) (.int .i64 0)).run Tryz.prog w = .ok (.agg #[.int .i64 x.a, .int .i64 x.p]) w := by kernel_rfl
theorem ixEnd1 (x : Lk) (w : World) : (Instr.index 92 (.agg #[.int .i64 x.a, .int .i64 x.p, .int .i64 x.b, .int .i64 x.q]) (.int .i64 1)).run Tryz.prog w = .ok (.agg #[.int .i64 x.b, .int .i64 x.q]) w := by kernel_rfl
theorem eqEnd (a p b q : Int) (w : World) : (binOp .eql 91 (.agg #[.int .i64 a, .int .i64 p]) (.agg #[.int .i64 b, .int .i64 q])).run Tryz.prog w = .ok (.bool (decide (a = b ∧ p = q))) w := by
  by_cases h1 : a = b
  · by_cases h2 : p = q
    · subst h1 h2
      simp [go_sem]
    · subst h1
      simp [go_sem, h2]
  · simp [go_sem, h1]
def bt (o : Bool) : Int := if o = true then 1 else 0
theorem bt01 (o : Bool) : 0 ≤ bt o ∧ bt o ≤ 1 := by cases o <;> simp [bt]
set_option maxHeartbeats 4000000 in
theorem linksAtI (ad : Option Addr) (cap : Nat) (K : List Lk) (a p : Int) (w : World) (hv : FView lkEnc w ad K) (hl : K.length ≤ 1048576) :
    Calls Tryz.prog 83 #[.slice ad K.length cap, .agg #[.int .i64 a, .int .i64 p]] w fun e w' => e = .returned (.int .i64 (onceL K a p)) ∧ Below w.heap.size w w' := by
  have hB := hv.lt lkEnc_len (by omega)
  obtain ⟨y, hy⟩ : ∃ y, y = w.alloc (Obj.cells #[.int .i64 a, .int .i64 p] 91) := ⟨_, rfl⟩
  have B0 : Below w.heap.size w y := by rw [hy]; exact below_new _
  have A0 : EnAt y w.heap.size a p := by rw [hy]; exact EnAt.new w _ _ _
  have l0 := A0.lt
  go_enter Tryz.func83, Tryz.ntmps83
  go_wp2
  rw [← hy]
  clear hy
  go_loopw [5, 12] (fun s i wr => ∃ (k : Nat) (c : Int), k ≤ K.length ∧ i = .int .i64 k ∧ s = .int .i64 c ∧ Hid (c = onceL (K.take k) a p) ∧ Below w.heap.size w wr ∧ EnAt wr w.heap.size a p) (fun _ i _ => K.length - (intOf i).toNat)
  case atStart => exact ⟨0, 0, Nat.zero_le _, rfl, rfl, by unfold Hid; simp [onceL], B0, A0⟩
  case round =>
    obtain ⟨k, c, hk, rfl, rfl, hc, hb, A⟩ := hrel
    clear B0 A0
    by_cases hlt : k < K.length
    · obtain ⟨b, off, rfl, _⟩ := hv (by omega)
      obtain ⟨x, hh⟩ : ∃ h, K.getD k Lk.nil = h := ⟨_, rfl⟩
      have hck : LkAtO wr b (off + k * 4) x := by
        rw [← hh]
        exact lkAtO_of ((hv.below hb hB).at_ lkEnc_len Lk.nil hlt)
      have hst : Hid (onceL (K.take (k + 1)) a p = c + ((if x.a = a ∧ x.p = p then 1 else 0) + (if x.b = a ∧ x.q = p then 1 else 0))) := by
        unfold Hid
        rw [hc.out, once_take K a p hlt, hh]
      have hc0 : 0 ≤ c := by rw [hc.out]; exact once_nonneg _ _ _
      have hc1 : c ≤ 2100000 := by
        have h1 := hc.out
        have h2 := once_most (K.take k) a p
        rw [List.length_take] at h2
        omega
      obtain ⟨c0, c1, c2, c3⟩ := hck
      obtain ⟨u, hu⟩ : ∃ u, u = wr.alloc (Obj.cells #[.int .i64 x.a, .int .i64 x.p, .int .i64 x.b, .int .i64 x.q] 34) := ⟨_, rfl⟩
      have bu : Below w.heap.size w u := by rw [hu]; exact hb.alloc hb.size _
      have Au : EnAt u w.heap.size a p := by rw [hu]; exact A.below (below_new _) A.lt
      clear hv hh hB
      go_wp2_with fail
      go_at_call 63
      rw [← hu]
      clear hu c0 c1 c2 c3 A hb
      refine (endsI x u).mono ?_
      rintro e u1 ⟨rfl, k1⟩
      have b1 := bu.trans (k1.mono bu.size)
      have A1 := Au.below k1 Au.lt
      clear k1 Au bu
      go_wp2
      refine wp_loop_rounds 3 ?_
      rw [rounds_succ]
      obtain ⟨o1, ho1⟩ : ∃ o, decide (x.a = a ∧ x.p = p) = o := ⟨_, rfl⟩
      obtain ⟨o2, ho2⟩ : ∃ o, decide (x.b = a ∧ x.q = p) = o := ⟨_, rfl⟩
      have t1 := bt01 o1
      have t2 := bt01 o2
      have hst : Hid (onceL (K.take (k + 1)) a p = c + (bt o1 + bt o2)) := by
        unfold Hid
        rw [hst.out, ← ho1, ← ho2]
        unfold bt
        simp only [decide_eq_true_eq]
      replace ho1 : Hid _ := ho1
      replace ho2 : Hid _ := ho2
      have q1 : ∀ w, (binOp .eql 91 (.agg #[.int .i64 x.a, .int .i64 x.p]) (.agg #[.int .i64 a, .int .i64 p])).run Tryz.prog w = .ok (.bool o1) w := fun w => by rw [eqEnd, ho1.out]
      have q2 : ∀ w, (binOp .eql 91 (.agg #[.int .i64 x.b, .int .i64 x.q]) (.agg #[.int .i64 a, .int .i64 p])).run Tryz.prog w = .ok (.bool o2) w := fun w => by rw [eqEnd, ho2.out]
      have ix0 := ixEnd0 x
      have ix1 := ixEnd1 x
      have lu := A1.lt
      obtain ⟨a0, a1⟩ := A1
      go_wp2_with fail
      go_at_call 84
      obtain ⟨m1, hm1⟩ : ∃ m, m = bt o1 := ⟨_, rfl⟩
      obtain ⟨m2, hm2⟩ : ∃ m, m = bt o2 := ⟨_, rfl⟩
      rw [← hm1, ← hm2] at hst
      rw [← hm1] at t1
      rw [← hm2] at t2
      refine (oneIfI o1 m1 hm1.symm _).mono ?_
      rintro e u2 ⟨rfl, rfl⟩
      replace hm1 : Hid _ := hm1
      replace hm2 : Hid _ := hm2
      go_wp2_with fail
      rw [rounds_succ]
      go_wp2_with fail
      go_at_call 84
      refine (oneIfI o2 m2 hm2.out.symm _).mono ?_
      rintro e u3 ⟨rfl, rfl⟩
      go_wp2_with fail
      rw [rounds_succ]
      go_wp2
      go_roundw
      case rel => exact ⟨k + 1, c + m1 + m2, by omega, by go_num, by go_num, by have := hst.out; unfold Hid; omega, (b1.alloc b1.size _).alloc (b1.alloc b1.size _).size _, (EnAt.mk a0 a1 |>.below (below_new _) lu).below (below_new _) (by simp; omega)⟩
      case measure => simp [intOf]; omega
    · obtain rfl : k = K.length := by omega
      have e : c = onceL K a p := by rw [hc.out, List.take_length]
      go_wp2
      go_ret
      exact ⟨by rw [← e]; rfl, hb⟩

end Go.Proofs.YtemibefbkjpnaaaGreat
