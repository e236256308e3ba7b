/- Lists of ports: how they come in. -/
import Derived.Test.YtjholgpjicliaaaDoorRows
import Derived.WalkKit
import Derived.ProofKit
import Derived.OpenShut
import Derived.ShutString
import Derived.ChangeOld
import Derived.Below
import Derived.Deep.QuietTactic
import Derived.BigQuiet
import Derived.WalkSmall
import Derived.Laws.OwnMore
import Derived.WalkSpells
import Derived.WalkLawsBesides
import Derived.Deep.Slices
import Derived.Lib.SmallJoins
import Derived.Test.YtjholgpjicliaaaDoorFlat
import Derived.Test.YtjholgpjicliaaaDoorBridgeMath
import Derived.Test.YtjholgpjicliaaaDoorBase
namespace Go.Proofs.YtjholgpjicliaaaDoor
open Go.ChangeShapes Go.WideShapes Go.ChangeAt Go.RowKit
open Go.ChangeMaps (open_string shut_string)
set_option linter.unusedVariables false
set_option maxRecDepth 100000

def ptEnc (x : Pt) : List Value := [.bool x.up, .bool x.has, .int .i64 x.r, .int .i64 x.c, .int .i64 x.b, .int .i64 x.p, .int .i64 x.h, .int .i64 x.l, .int .i64 x.ro, .int .i64 x.wa, .bool x.op]
theorem ptEnc_len (x : Pt) : (ptEnc x).length = 11 := rfl
theorem ptEnc_ones (L : List Pt) : ∀ u ∈ fcells ptEnc L, u.oneCell' = true := by
  induction L with
  | nil => intro u h; cases h
  | cons x L ih =>
    intro u h
    simp only [fcells, ptEnc, List.mem_append, List.mem_cons, List.not_mem_nil, or_false] at h
    rcases h with (rfl | rfl | rfl | rfl | rfl | rfl | rfl | rfl | rfl | rfl | rfl) | h
    · rfl
    · rfl
    · rfl
    · rfl
    · rfl
    · rfl
    · rfl
    · rfl
    · rfl
    · rfl
    · rfl
    · exact ih u h
/-- What its cells hold, in a world. -/
structure PtAtO (w : World) (b o : Nat) (x : Pt) : Prop where
  c0 : w.cell? ⟨b, o, none⟩ = some (.bool x.up)
  c1 : w.cell? ⟨b, o + 1, none⟩ = some (.bool x.has)
  c2 : w.cell? ⟨b, o + 2, none⟩ = some (.int .i64 x.r)
  c3 : w.cell? ⟨b, o + 3, none⟩ = some (.int .i64 x.c)
  c4 : w.cell? ⟨b, o + 4, none⟩ = some (.int .i64 x.b)
  c5 : w.cell? ⟨b, o + 5, none⟩ = some (.int .i64 x.p)
  c6 : w.cell? ⟨b, o + 6, none⟩ = some (.int .i64 x.h)
  c7 : w.cell? ⟨b, o + 7, none⟩ = some (.int .i64 x.l)
  c8 : w.cell? ⟨b, o + 8, none⟩ = some (.int .i64 x.ro)
  c9 : w.cell? ⟨b, o + 9, none⟩ = some (.int .i64 x.wa)
  c10 : w.cell? ⟨b, o + 10, none⟩ = some (.bool x.op)
theorem ptAtO_of {w : World} {b o : Nat} {x : Pt} (h : ∀ j v, (ptEnc x)[j]? = some v → w.cell? ⟨b, o + j, none⟩ = some v) : PtAtO w b o x := ⟨h 0 _ rfl, h 1 _ rfl, h 2 _ rfl, h 3 _ rfl, h 4 _ rfl, h 5 _ rfl, h 6 _ rfl, h 7 _ rfl, h 8 _ rfl, h 9 _ rfl, h 10 _ rfl⟩
theorem ptPut (w : World) (g o : Nat) (x : Pt) : putAll w g o (ptEnc x) = (((((((((((w.setCell ⟨g, o, none⟩ (.bool x.up)).setCell ⟨g, o + 1, none⟩ (.bool x.has)).setCell ⟨g, o + 2, none⟩ (.int .i64 x.r)).setCell ⟨g, o + 3, none⟩ (.int .i64 x.c)).setCell ⟨g, o + 4, none⟩ (.int .i64 x.b)).setCell ⟨g, o + 5, none⟩ (.int .i64 x.p)).setCell ⟨g, o + 6, none⟩ (.int .i64 x.h)).setCell ⟨g, o + 7, none⟩ (.int .i64 x.l)).setCell ⟨g, o + 8, none⟩ (.int .i64 x.ro)).setCell ⟨g, o + 9, none⟩ (.int .i64 x.wa)).setCell ⟨g, o + 10, none⟩ (.bool x.op)) := rfl
set_option maxRecDepth 100000 in
theorem ptRow_open {H : Type} {enc : TypeId × Value → H} {w : World} {n0 : Nat} {v : Value} {x : DataW H × List MemPlace} (hn : DataW.trod enc Tryd.prog w 0 (fun _ => true) true n0 46 [v] = some x) :
    ∃ ad cap L, v = .slice ad L.length cap ∧ L.length ≤ maxLen ∧ FView ptEnc w ad L ∧ (ad = none → cap = 0) := by
  have hs := Go.Deep.open_slice Tryd.underlying46 hn
  have hcell : ∀ x, [v] = [x] → v = x := fun x h => by simpa using h
  rcases hs with ⟨hcs, _⟩ | ⟨a, len, cap, m, n, D, Pl, hcs, _, hl, hm, hmm, _, hx⟩
  · exact ⟨none, 0, [], hcell _ hcs, by simp, FView.nil, fun _ => rfl⟩
  · simp at hmm
    subst hmm
    have each : ∀ i, i < m → ∃ q : Pt, w.cell? (a.add (i * 11)) = some (.bool q.up) ∧ w.cell? (a.add (i * 11 + 1)) = some (.bool q.has) ∧ w.cell? (a.add (i * 11 + 2)) = some (.int .i64 q.r) ∧ w.cell? (a.add (i * 11 + 3)) = some (.int .i64 q.c) ∧ w.cell? (a.add (i * 11 + 4)) = some (.int .i64 q.b) ∧ w.cell? (a.add (i * 11 + 5)) = some (.int .i64 q.p) ∧ w.cell? (a.add (i * 11 + 6)) = some (.int .i64 q.h) ∧ w.cell? (a.add (i * 11 + 7)) = some (.int .i64 q.l) ∧ w.cell? (a.add (i * 11 + 8)) = some (.int .i64 q.ro) ∧ w.cell? (a.add (i * 11 + 9)) = some (.int .i64 q.wa) ∧ w.cell? (a.add (i * 11 + 10)) = some (.bool q.op) := by
      intro i hi
      obtain ⟨cs', h1, h2⟩ := hx i hi
      rw [(by kernel_rfl : Tryd.prog.cellsOf 40 = 11)] at h1
      obtain ⟨_, hlen, hc⟩ := World.cells?_some h1
      obtain ⟨xs, k, hk, hxy, _, hxl, hf⟩ := DataW.trod_struct Tryd.underlying40 h2
      match xs, hxl, cs', hlen with
      | [y0, y1, y2, y3, y4, y5, y6, y7], _, [c0, c1, c2, c3, c4, c5, c6, c7, c8, c9, c10], _ =>
        have g0 : DataW.trod enc Tryd.prog w 0 (fun _ => true) true k 4 ((List.drop 0 [c0, c1, c2, c3, c4, c5, c6, c7, c8, c9, c10]).take (Tryd.prog.cellsOf 4)) = some y0 := hf 0 _ rfl
        rw [(by kernel_rfl : Tryd.prog.cellsOf 4 = 1)] at g0
        have g1 : DataW.trod enc Tryd.prog w 0 (fun _ => true) true k 4 ((List.drop 1 [c0, c1, c2, c3, c4, c5, c6, c7, c8, c9, c10]).take (Tryd.prog.cellsOf 4)) = some y1 := hf 1 _ rfl
        rw [(by kernel_rfl : Tryd.prog.cellsOf 4 = 1)] at g1
        have g2 : DataW.trod enc Tryd.prog w 0 (fun _ => true) true k 23 ((List.drop 2 [c0, c1, c2, c3, c4, c5, c6, c7, c8, c9, c10]).take (Tryd.prog.cellsOf 23)) = some y2 := hf 2 _ rfl
        rw [(by kernel_rfl : Tryd.prog.cellsOf 23 = 4)] at g2
        have g3 : DataW.trod enc Tryd.prog w 0 (fun _ => true) true k 3 ((List.drop 6 [c0, c1, c2, c3, c4, c5, c6, c7, c8, c9, c10]).take (Tryd.prog.cellsOf 3)) = some y3 := hf 3 _ rfl
        rw [(by kernel_rfl : Tryd.prog.cellsOf 3 = 1)] at g3
        have g4 : DataW.trod enc Tryd.prog w 0 (fun _ => true) true k 3 ((List.drop 7 [c0, c1, c2, c3, c4, c5, c6, c7, c8, c9, c10]).take (Tryd.prog.cellsOf 3)) = some y4 := hf 4 _ rfl
        rw [(by kernel_rfl : Tryd.prog.cellsOf 3 = 1)] at g4
        have g5 : DataW.trod enc Tryd.prog w 0 (fun _ => true) true k 3 ((List.drop 8 [c0, c1, c2, c3, c4, c5, c6, c7, c8, c9, c10]).take (Tryd.prog.cellsOf 3)) = some y5 := hf 5 _ rfl
        rw [(by kernel_rfl : Tryd.prog.cellsOf 3 = 1)] at g5
        have g6 : DataW.trod enc Tryd.prog w 0 (fun _ => true) true k 3 ((List.drop 9 [c0, c1, c2, c3, c4, c5, c6, c7, c8, c9, c10]).take (Tryd.prog.cellsOf 3)) = some y6 := hf 6 _ rfl
        rw [(by kernel_rfl : Tryd.prog.cellsOf 3 = 1)] at g6
        have g7 : DataW.trod enc Tryd.prog w 0 (fun _ => true) true k 4 ((List.drop 10 [c0, c1, c2, c3, c4, c5, c6, c7, c8, c9, c10]).take (Tryd.prog.cellsOf 4)) = some y7 := hf 7 _ rfl
        rw [(by kernel_rfl : Tryd.prog.cellsOf 4 = 1)] at g7
        obtain ⟨us2, k2, hk2, hxy2, _, hul2, hg2⟩ := DataW.trod_struct Tryd.underlying23 g2
        match us2, hul2 with
        | [u2_0, u2_1, u2_2, u2_3], _ =>
          have q2_0 : DataW.trod enc Tryd.prog w 0 (fun _ => true) true k2 3 ((List.drop 0 [c2, c3, c4, c5]).take (Tryd.prog.cellsOf 3)) = some u2_0 := hg2 0 _ rfl
          rw [(by kernel_rfl : Tryd.prog.cellsOf 3 = 1)] at q2_0
          have q2_1 : DataW.trod enc Tryd.prog w 0 (fun _ => true) true k2 3 ((List.drop 1 [c2, c3, c4, c5]).take (Tryd.prog.cellsOf 3)) = some u2_1 := hg2 1 _ rfl
          rw [(by kernel_rfl : Tryd.prog.cellsOf 3 = 1)] at q2_1
          have q2_2 : DataW.trod enc Tryd.prog w 0 (fun _ => true) true k2 3 ((List.drop 2 [c2, c3, c4, c5]).take (Tryd.prog.cellsOf 3)) = some u2_2 := hg2 2 _ rfl
          rw [(by kernel_rfl : Tryd.prog.cellsOf 3 = 1)] at q2_2
          have q2_3 : DataW.trod enc Tryd.prog w 0 (fun _ => true) true k2 3 ((List.drop 3 [c2, c3, c4, c5]).take (Tryd.prog.cellsOf 3)) = some u2_3 := hg2 3 _ rfl
          rw [(by kernel_rfl : Tryd.prog.cellsOf 3 = 1)] at q2_3
          obtain ⟨z0, e0, _⟩ := DataW.trod_bool Tryd.underlying4 g0
          obtain ⟨z1, e1, _⟩ := DataW.trod_bool Tryd.underlying4 g1
          obtain ⟨z2, e2, _, _⟩ := DataW.trod_int Tryd.underlying3 q2_0
          obtain ⟨z3, e3, _, _⟩ := DataW.trod_int Tryd.underlying3 q2_1
          obtain ⟨z4, e4, _, _⟩ := DataW.trod_int Tryd.underlying3 q2_2
          obtain ⟨z5, e5, _, _⟩ := DataW.trod_int Tryd.underlying3 q2_3
          obtain ⟨z6, e6, _, _⟩ := DataW.trod_int Tryd.underlying3 g3
          obtain ⟨z7, e7, _, _⟩ := DataW.trod_int Tryd.underlying3 g4
          obtain ⟨z8, e8, _, _⟩ := DataW.trod_int Tryd.underlying3 g5
          obtain ⟨z9, e9, _, _⟩ := DataW.trod_int Tryd.underlying3 g6
          obtain ⟨z10, e10, _⟩ := DataW.trod_bool Tryd.underlying4 g7
          simp at e0 e1 e2 e3 e4 e5 e6 e7 e8 e9 e10
          subst e0 e1 e2 e3 e4 e5 e6 e7 e8 e9 e10
          have k_0 := hc 0 (by omega)
          have k_1 := hc 1 (by omega)
          have k_2 := hc 2 (by omega)
          have k_3 := hc 3 (by omega)
          have k_4 := hc 4 (by omega)
          have k_5 := hc 5 (by omega)
          have k_6 := hc 6 (by omega)
          have k_7 := hc 7 (by omega)
          have k_8 := hc 8 (by omega)
          have k_9 := hc 9 (by omega)
          have k_10 := hc 10 (by omega)
          rw [Go.Deep.add_add] at k_0 k_1 k_2 k_3 k_4 k_5 k_6 k_7 k_8 k_9 k_10
          exact ⟨⟨z0, z1, z2, z3, z4, z5, z6, z7, z8, z9, z10⟩, by simpa using k_0, by simpa using k_1, by simpa using k_2, by simpa using k_3, by simpa using k_4, by simpa using k_5, by simpa using k_6, by simpa using k_7, by simpa using k_8, by simpa using k_9, by simpa using k_10⟩
    haveI : Inhabited Pt := ⟨Pt.nil⟩
    obtain ⟨q, hq⟩ := Go.Deep.choose_lt each
    refine ⟨some a, m, (List.range len).map q, by simpa using hcell _ hcs, by simpa using Nat.le_trans hl hm, fun hp => ?_, fun e => by cases e⟩
    simp at hp
    obtain ⟨b, off, spot⟩ := a
    have hspot : spot = none := by simpa [Addr.add] using World.cell?_spot (hq 0 (by omega)).1
    subst hspot
    refine ⟨b, off, rfl, fun j v hv => ?_⟩
    have hjl : j < len * 11 := by
      have := (List.getElem?_eq_some_iff.1 hv).1
      rw [fcells_len ptEnc_len] at this
      simpa using this
    have hi : j / 11 < len := by omega
    have hr : j % 11 < 11 := Nat.mod_lt _ (by omega)
    have e : j = j / 11 * 11 + j % 11 := by omega
    rw [e, fcells_at ptEnc_len Pt.nil _ _ _ (by simpa using hi) hr, show ((List.range len).map q).getD (j / 11) Pt.nil = q (j / 11) by simp [List.getD, hi]] at hv
    obtain ⟨k0, k1, k2, k3, k4, k5, k6, k7, k8, k9, k10⟩ := hq (j / 11) (by omega)
    simp only [add_plain] at k0 k1 k2 k3 k4 k5 k6 k7 k8 k9 k10
    rw [e]
    generalize j % 11 = r at hv hr
    have hcase : r = 0 ∨ r = 1 ∨ r = 2 ∨ r = 3 ∨ r = 4 ∨ r = 5 ∨ r = 6 ∨ r = 7 ∨ r = 8 ∨ r = 9 ∨ r = 10 := by omega
    rcases hcase with rfl | rfl | rfl | rfl | rfl | rfl | rfl | rfl | rfl | rfl | rfl
    · cases hv; simpa [Nat.add_assoc] using k0
    · cases hv; simpa [Nat.add_assoc] using k1
    · cases hv; simpa [Nat.add_assoc] using k2
    · cases hv; simpa [Nat.add_assoc] using k3
    · cases hv; simpa [Nat.add_assoc] using k4
    · cases hv; simpa [Nat.add_assoc] using k5
    · cases hv; simpa [Nat.add_assoc] using k6
    · cases hv; simpa [Nat.add_assoc] using k7
    · cases hv; simpa [Nat.add_assoc] using k8
    · cases hv; simpa [Nat.add_assoc] using k9
    · cases hv; simpa [Nat.add_assoc] using k10
theorem ptSz (ad : Option Addr) (len cap : Nat) (left : Int) (w : World) (h0 : 0 ≤ left) (h1 : left ≤ 1048576) (hm : len ≤ maxLen) :
    Calls Tryd.prog 30 #[.slice ad len cap, .int .i64 left] w fun e w' => e = .returned (.int .i64 (if (len : Int) ≤ left then left - len else -1)) ∧ w' = w := by
  unfold maxLen at hm
  by_cases h : (len : Int) ≤ left
  · rw [if_pos h]
    have h2 : 0 ≤ left - (len : Int) := by omega
    go_enter Tryd.func30, Tryd.ntmps30
    go_wp2
    go_ret
    exact ⟨rfl, rfl⟩
  · rw [if_neg h]
    have h2 : left - (len : Int) < 0 := by omega
    go_enter Tryd.func30, Tryd.ntmps30
    go_wp2
    go_ret
    exact ⟨rfl, rfl⟩

end Go.Proofs.YtjholgpjicliaaaDoor
