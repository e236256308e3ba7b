/- Lists of In: how they come in, how long, copied. -/
import Derived.Test.YtnpiljegdiconaaGreatRows
import Derived.WalkKit
import Derived.ProofKit
import Derived.OpenShut
import Derived.ShutString
import Derived.ChangeOld
import Derived.Below
import Derived.Deep.QuietTactic
import Derived.BigQuiet
import Derived.WalkSmall
import Derived.Laws.OwnMore
import Derived.WalkSpells
import Derived.WalkLawsBesides
import Derived.Deep.Slices
import Derived.Lib.SmallJoins
import Derived.Test.YtnpiljegdiconaaGreatIs1
import Derived.Test.YtnpiljegdiconaaGreatIn4
namespace Go.Proofs.YtnpiljegdiconaaGreat
open Go.ChangeShapes Go.WideShapes Go.ChangeAt Go.RowKit
open Go.ChangeMaps (open_string shut_string)
set_option linter.unusedVariables false
set_option maxRecDepth 100000

set_option maxRecDepth 100000 in
theorem ikRow_open {H : Type} {enc : TypeId × Value → H} {w : World} {n0 : Nat} {v : Value} {x : DataW H × List MemPlace} (hn : DataW.trod enc Tryz.prog w 0 (fun _ => true) true n0 67 [v] = some x) :
    ∃ ad cap L, v = .slice ad L.length cap ∧ L.length ≤ maxLen ∧ FView ikEnc w ad L ∧ (ad = none → cap = 0) := by
  have hs := Go.Deep.open_slice Tryz.underlying67 hn
  have hcell : ∀ x, [v] = [x] → v = x := fun x h => by simpa using h
  rcases hs with ⟨hcs, _⟩ | ⟨a, len, cap, m, n, D, Pl, hcs, _, hl, hm, hmm, _, hx⟩
  · exact ⟨none, 0, [], hcell _ hcs, by simp, FView.nil, fun _ => rfl⟩
  · simp at hmm
    subst hmm
    have each : ∀ i, i < m → ∃ q : Ik, w.cell? (a.add (i * 8)) = some (.int .i64 q.k) ∧ w.cell? (a.add (i * 8 + 1)) = some (.int .i64 q.q) ∧ w.cell? (a.add (i * 8 + 2)) = some (.int .i64 q.r) ∧ w.cell? (a.add (i * 8 + 3)) = some (.int .i64 q.c) ∧ w.cell? (a.add (i * 8 + 4)) = some (.int .i64 q.b) ∧ w.cell? (a.add (i * 8 + 5)) = some (.int .i64 q.p) ∧ w.cell? (a.add (i * 8 + 6)) = some (.int .i64 q.h) ∧ w.cell? (a.add (i * 8 + 7)) = some (.bool q.up) := by
      intro i hi
      obtain ⟨cs', h1, h2⟩ := hx i hi
      rw [(by kernel_rfl : Tryz.prog.cellsOf 196 = 8)] at h1
      obtain ⟨_, hlen, hc⟩ := World.cells?_some h1
      obtain ⟨xs, k, hk, hxy, _, hxl, hf⟩ := DataW.trod_struct Tryz.underlying196 h2
      match xs, hxl, cs', hlen with
      | [y0, y1, y2, y3, y4], _, [c0, c1, c2, c3, c4, c5, c6, c7], _ =>
        have g0 : DataW.trod enc Tryz.prog w 0 (fun _ => true) true k 3 ((List.drop 0 [c0, c1, c2, c3, c4, c5, c6, c7]).take (Tryz.prog.cellsOf 3)) = some y0 := hf 0 _ rfl
        rw [(by kernel_rfl : Tryz.prog.cellsOf 3 = 1)] at g0
        have g1 : DataW.trod enc Tryz.prog w 0 (fun _ => true) true k 3 ((List.drop 1 [c0, c1, c2, c3, c4, c5, c6, c7]).take (Tryz.prog.cellsOf 3)) = some y1 := hf 1 _ rfl
        rw [(by kernel_rfl : Tryz.prog.cellsOf 3 = 1)] at g1
        have g2 : DataW.trod enc Tryz.prog w 0 (fun _ => true) true k 194 ((List.drop 2 [c0, c1, c2, c3, c4, c5, c6, c7]).take (Tryz.prog.cellsOf 194)) = some y2 := hf 2 _ rfl
        rw [(by kernel_rfl : Tryz.prog.cellsOf 194 = 4)] at g2
        have g3 : DataW.trod enc Tryz.prog w 0 (fun _ => true) true k 3 ((List.drop 6 [c0, c1, c2, c3, c4, c5, c6, c7]).take (Tryz.prog.cellsOf 3)) = some y3 := hf 3 _ rfl
        rw [(by kernel_rfl : Tryz.prog.cellsOf 3 = 1)] at g3
        have g4 : DataW.trod enc Tryz.prog w 0 (fun _ => true) true k 4 ((List.drop 7 [c0, c1, c2, c3, c4, c5, c6, c7]).take (Tryz.prog.cellsOf 4)) = some y4 := hf 4 _ rfl
        rw [(by kernel_rfl : Tryz.prog.cellsOf 4 = 1)] at g4
        obtain ⟨us2, k2, hk2, hxy2, _, hul2, hg2⟩ := DataW.trod_struct Tryz.underlying194 g2
        match us2, hul2 with
        | [u2_0, u2_1, u2_2, u2_3], _ =>
          have q2_0 : DataW.trod enc Tryz.prog w 0 (fun _ => true) true k2 3 ((List.drop 0 [c2, c3, c4, c5]).take (Tryz.prog.cellsOf 3)) = some u2_0 := hg2 0 _ rfl
          rw [(by kernel_rfl : Tryz.prog.cellsOf 3 = 1)] at q2_0
          have q2_1 : DataW.trod enc Tryz.prog w 0 (fun _ => true) true k2 3 ((List.drop 1 [c2, c3, c4, c5]).take (Tryz.prog.cellsOf 3)) = some u2_1 := hg2 1 _ rfl
          rw [(by kernel_rfl : Tryz.prog.cellsOf 3 = 1)] at q2_1
          have q2_2 : DataW.trod enc Tryz.prog w 0 (fun _ => true) true k2 3 ((List.drop 2 [c2, c3, c4, c5]).take (Tryz.prog.cellsOf 3)) = some u2_2 := hg2 2 _ rfl
          rw [(by kernel_rfl : Tryz.prog.cellsOf 3 = 1)] at q2_2
          have q2_3 : DataW.trod enc Tryz.prog w 0 (fun _ => true) true k2 3 ((List.drop 3 [c2, c3, c4, c5]).take (Tryz.prog.cellsOf 3)) = some u2_3 := hg2 3 _ rfl
          rw [(by kernel_rfl : Tryz.prog.cellsOf 3 = 1)] at q2_3
          obtain ⟨z0, e0, _, _⟩ := DataW.trod_int Tryz.underlying3 g0
          obtain ⟨z1, e1, _, _⟩ := DataW.trod_int Tryz.underlying3 g1
          obtain ⟨z2, e2, _, _⟩ := DataW.trod_int Tryz.underlying3 q2_0
          obtain ⟨z3, e3, _, _⟩ := DataW.trod_int Tryz.underlying3 q2_1
          obtain ⟨z4, e4, _, _⟩ := DataW.trod_int Tryz.underlying3 q2_2
          obtain ⟨z5, e5, _, _⟩ := DataW.trod_int Tryz.underlying3 q2_3
          obtain ⟨z6, e6, _, _⟩ := DataW.trod_int Tryz.underlying3 g3
          obtain ⟨z7, e7, _⟩ := DataW.trod_bool Tryz.underlying4 g4
          simp at e0 e1 e2 e3 e4 e5 e6 e7
          subst e0 e1 e2 e3 e4 e5 e6 e7
          have k_0 := hc 0 (by omega)
          have k_1 := hc 1 (by omega)
          have k_2 := hc 2 (by omega)
          have k_3 := hc 3 (by omega)
          have k_4 := hc 4 (by omega)
          have k_5 := hc 5 (by omega)
          have k_6 := hc 6 (by omega)
          have k_7 := hc 7 (by omega)
          rw [Go.Deep.add_add] at k_0 k_1 k_2 k_3 k_4 k_5 k_6 k_7
          exact ⟨⟨z0, z1, z2, z3, z4, z5, z6, z7⟩, by simpa using k_0, by simpa using k_1, by simpa using k_2, by simpa using k_3, by simpa using k_4, by simpa using k_5, by simpa using k_6, by simpa using k_7⟩
    haveI : Inhabited Ik := ⟨Ik.nil⟩
    obtain ⟨q, hq⟩ := Go.Deep.choose_lt each
    refine ⟨some a, m, (List.range len).map q, by simpa using hcell _ hcs, by simpa using Nat.le_trans hl hm, fun hp => ?_, fun e => by cases e⟩
    simp at hp
    obtain ⟨b, off, spot⟩ := a
    have hspot : spot = none := by simpa [Addr.add] using World.cell?_spot (hq 0 (by omega)).1
    subst hspot
    refine ⟨b, off, rfl, fun j v hv => ?_⟩
    have hjl : j < len * 8 := by
      have := (List.getElem?_eq_some_iff.1 hv).1
      rw [fcells_len ikEnc_len] at this
      simpa using this
    have hi : j / 8 < len := by omega
    have hr : j % 8 < 8 := Nat.mod_lt _ (by omega)
    have e : j = j / 8 * 8 + j % 8 := by omega
    rw [e, fcells_at ikEnc_len Ik.nil _ _ _ (by simpa using hi) hr, show ((List.range len).map q).getD (j / 8) Ik.nil = q (j / 8) by simp [List.getD, hi]] at hv
    obtain ⟨k0, k1, k2, k3, k4, k5, k6, k7⟩ := hq (j / 8) (by omega)
    simp only [add_plain] at k0 k1 k2 k3 k4 k5 k6 k7
    rw [e]
    generalize j % 8 = r at hv hr
    have hcase : r = 0 ∨ r = 1 ∨ r = 2 ∨ r = 3 ∨ r = 4 ∨ r = 5 ∨ r = 6 ∨ r = 7 := by omega
    rcases hcase with rfl | rfl | rfl | rfl | rfl | rfl | rfl | rfl
    · cases hv; simpa [Nat.add_assoc] using k0
    · cases hv; simpa [Nat.add_assoc] using k1
    · cases hv; simpa [Nat.add_assoc] using k2
    · cases hv; simpa [Nat.add_assoc] using k3
    · cases hv; simpa [Nat.add_assoc] using k4
    · cases hv; simpa [Nat.add_assoc] using k5
    · cases hv; simpa [Nat.add_assoc] using k6
    · cases hv; simpa [Nat.add_assoc] using k7
theorem ikSz (ad : Option Addr) (len cap : Nat) (left : Int) (w : World) (h0 : 0 ≤ left) (h1 : left ≤ 1048576) (hm : len ≤ maxLen) :
    Calls Tryz.prog 108 #[.slice ad len cap, .int .i64 left] w fun e w' => e = .returned (.int .i64 (if (len : Int) ≤ left then left - len else -1)) ∧ w' = w := by
  unfold maxLen at hm
  by_cases h : (len : Int) ≤ left
  · rw [if_pos h]
    have h2 : 0 ≤ left - (len : Int) := by omega
    go_enter Tryz.func108, Tryz.ntmps108
    go_wp2
    go_ret
    exact ⟨rfl, rfl⟩
  · rw [if_neg h]
    have h2 : left - (len : Int) < 0 := by omega
    go_enter Tryz.func108, Tryz.ntmps108
    go_wp2
    go_ret
    exact ⟨rfl, rfl⟩
theorem ikInfo : (Tryz.prog.info? 105).map (fun i => (i.zero, i.size, i.bytes)) = some (some (.agg #[.int .i64 0, .int .i64 0, .int .i64 0, .int .i64 0, .int .i64 0, .int .i64 0, .int .i64 0, .bool false]), 8, 64) := by kernel_rfl
set_option maxHeartbeats 2000000 in
theorem ikToS (ad : Option Addr) (cap : Nat) (L : List Ik) (w : World) (hv : FView ikEnc w ad L) (hl : L.length ≤ 1048576) :
    Calls Tryz.prog 114 #[.slice ad L.length cap] w fun e w' => e = .returned (.slice (some ⟨w.heap.size, 0, none⟩) L.length L.length) ∧ FOwn ikEnc 8 105 w.heap.size w' (.slice (some ⟨w.heap.size, 0, none⟩) L.length L.length) L ∧ Below w.heap.size w w' := by
  obtain ⟨i0, hi, hz0, hz1, hz2⟩ := info_parts ikInfo
  have hB := hv.lt ikEnc_len (by omega)
  go_enter Tryz.func114, Tryz.ntmps114
  go_wp2_with (first | (refine wpList_make_full _ rfl _ _ 26 rfl w.heap.size 105 i0 (.agg #[.int .i64 0, .int .i64 0, .int .i64 0, .int .i64 0, .int .i64 0, .int .i64 0, .int .i64 0, .bool false]) 8 Tryz.underlying26 hi hz0 hz1 .i64 .i64 _ _ L.length rfl rfl rfl rfl ?c1 ?c2 ?c3 ?_))
  case c1 => rw [hz2]; omega
  case c2 => unfold maxLen; omega
  case c3 => exact Nat.le_refl _
  intro w1 hown hgrow
  have F0 : FFill ikEnc 8 105 w.heap.size w1 w.heap.size L 0 := FFill.start hown
  have B0 : Below w.heap.size w w1 := (Below.refl _ _).grown hgrow (Nat.le_refl _) (by simp)
  clear hown hgrow
  go_wp2
  go_loopw [4] (fun i wr => ∃ k : Nat, k ≤ L.length ∧ i = .int .i64 k ∧ FFill ikEnc 8 105 w.heap.size wr w.heap.size L k ∧ Below w.heap.size w wr) (fun i _ => L.length - (intOf i).toNat)
  case atStart => exact ⟨0, Nat.zero_le _, rfl, F0, B0⟩
  case round =>
    obtain ⟨k, hk, rfl, F, B⟩ := hrel
    clear F0 B0
    by_cases hlt : k < L.length
    · obtain ⟨b, off, rfl, _⟩ := hv (by omega)
      obtain ⟨h, hh⟩ : ∃ h, L.getD k Ik.nil = h := ⟨_, rfl⟩
      have hck : IkAtO wr b (off + k * 8) h := by
        rw [← hh]
        exact ikAtO_of ((hv.below B hB).at_ ikEnc_len Ik.nil hlt)
      obtain ⟨c0, c1, c2, c3, c4, c5, c6, c7⟩ := hck
      have hsz := F.lt
      go_wp2_with fail
      go_at_call 163
      refine (toInI h wr).mono ?_
      rintro e w2 ⟨rfl, k2⟩
      have G := F.keep (k2.block _ hsz.2)
      have B2 := B.trans (k2.mono (Nat.le_of_lt hsz.2))
      obtain ⟨u0, hu0⟩ := G.cell (k * 8) (by omega)
      obtain ⟨u1, hu1⟩ := G.cell (k * 8 + 1) (by omega)
      obtain ⟨u2, hu2⟩ := G.cell (k * 8 + 2) (by omega)
      obtain ⟨u3, hu3⟩ := G.cell (k * 8 + 3) (by omega)
      obtain ⟨u4, hu4⟩ := G.cell (k * 8 + 4) (by omega)
      obtain ⟨u5, hu5⟩ := G.cell (k * 8 + 5) (by omega)
      obtain ⟨u6, hu6⟩ := G.cell (k * 8 + 6) (by omega)
      obtain ⟨u7, hu7⟩ := G.cell (k * 8 + 7) (by omega)
      have f0 := G.frozen (k * 8)
      have f1 := G.frozen (k * 8 + 1)
      have f2 := G.frozen (k * 8 + 2)
      have f3 := G.frozen (k * 8 + 3)
      have f4 := G.frozen (k * 8 + 4)
      have f5 := G.frozen (k * 8 + 5)
      have f6 := G.frozen (k * 8 + 6)
      have f7 := G.frozen (k * 8 + 7)
      have G1 := G.step ikEnc_len Ik.nil hlt
      have B3 := below_putAll (Nat.le_refl _) (ikEnc h) (k * 8) B2
      rw [hh, ikPut] at G1
      rw [ikPut] at B3
      clear F G B B2 hh hsz
      go_wp2
      go_roundw
      case rel => exact ⟨k + 1, by omega, by go_num, G1, B3⟩
      case measure => simp [intOf]; omega
    · obtain rfl : k = L.length := by omega
      go_wp2
      go_ret
      exact ⟨rfl, F.done ikEnc_len, B⟩

end Go.Proofs.YtnpiljegdiconaaGreat
