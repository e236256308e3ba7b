/- Lists of links: how they come in. -/
import Derived.Test.YtdfjfodfnildiabRows
import Derived.WalkKit
import Derived.ProofKit
import Derived.OpenShut
import Derived.ShutString
import Derived.ChangeOld
import Derived.Below
import Derived.Deep.QuietTactic
import Derived.BigQuiet
import Derived.WalkSmall
import Derived.Laws.OwnMore
import Derived.WalkSpells
import Derived.WalkLawsBesides
import Derived.Deep.Slices
import Derived.Lib.SmallJoins
import Derived.Test.YtdfjfodfnildiabFlat
namespace Go.Proofs.Ytdfjfodfnildiab
open Go.ChangeShapes Go.WideShapes Go.ChangeAt Go.RowKit
open Go.ChangeMaps (open_string shut_string)
set_option linter.unusedVariables false
set_option maxRecDepth 100000

/-- A link: its cells. -/
structure Lk where
  a : Int
  p : Int
  b : Int
  q : Int
def Lk.nil : Lk := ⟨0, 0, 0, 0⟩
def lkEnc (x : Lk) : List Value := [.int .i64 x.a, .int .i64 x.p, .int .i64 x.b, .int .i64 x.q]
theorem lkEnc_len (x : Lk) : (lkEnc x).length = 4 := rfl
theorem lkEnc_ones (L : List Lk) : ∀ u ∈ fcells lkEnc L, u.oneCell' = true := by
  induction L with
  | nil => intro u h; cases h
  | cons x L ih =>
    intro u h
    simp only [fcells, lkEnc, List.mem_append, List.mem_cons, List.not_mem_nil, or_false] at h
    rcases h with (rfl | rfl | rfl | rfl) | h
    · rfl
    · rfl
    · rfl
    · rfl
    · exact ih u h
/-- What its cells hold, in a world. -/
structure LkAtO (w : World) (b o : Nat) (x : Lk) : Prop where
  c0 : w.cell? ⟨b, o, none⟩ = some (.int .i64 x.a)
  c1 : w.cell? ⟨b, o + 1, none⟩ = some (.int .i64 x.p)
  c2 : w.cell? ⟨b, o + 2, none⟩ = some (.int .i64 x.b)
  c3 : w.cell? ⟨b, o + 3, none⟩ = some (.int .i64 x.q)
theorem lkAtO_of {w : World} {b o : Nat} {x : Lk} (h : ∀ j v, (lkEnc x)[j]? = some v → w.cell? ⟨b, o + j, none⟩ = some v) : LkAtO w b o x := ⟨h 0 _ rfl, h 1 _ rfl, h 2 _ rfl, h 3 _ rfl⟩
theorem lkPut (w : World) (g o : Nat) (x : Lk) : putAll w g o (lkEnc x) = ((((w.setCell ⟨g, o, none⟩ (.int .i64 x.a)).setCell ⟨g, o + 1, none⟩ (.int .i64 x.p)).setCell ⟨g, o + 2, none⟩ (.int .i64 x.b)).setCell ⟨g, o + 3, none⟩ (.int .i64 x.q)) := rfl
set_option maxRecDepth 100000 in
theorem lkRow_open {H : Type} {enc : TypeId × Value → H} {w : World} {n0 : Nat} {v : Value} {x : DataW H × List MemPlace} (hn : DataW.trod enc Try.prog w 0 (fun _ => true) true n0 23 [v] = some x) :
    ∃ ad cap L, v = .slice ad L.length cap ∧ L.length ≤ maxLen ∧ FView lkEnc w ad L ∧ (ad = none → cap = 0) := by
  have hs := Go.Deep.open_slice Try.underlying23 hn
  have hcell : ∀ x, [v] = [x] → v = x := fun x h => by simpa using h
  rcases hs with ⟨hcs, _⟩ | ⟨a, len, cap, m, n, D, Pl, hcs, _, hl, hm, hmm, _, hx⟩
  · exact ⟨none, 0, [], hcell _ hcs, by simp, FView.nil, fun _ => rfl⟩
  · simp at hmm
    subst hmm
    have each : ∀ i, i < m → ∃ q : Lk, w.cell? (a.add (i * 4)) = some (.int .i64 q.a) ∧ w.cell? (a.add (i * 4 + 1)) = some (.int .i64 q.p) ∧ w.cell? (a.add (i * 4 + 2)) = some (.int .i64 q.b) ∧ w.cell? (a.add (i * 4 + 3)) = some (.int .i64 q.q) := by
      intro i hi
      obtain ⟨cs', h1, h2⟩ := hx i hi
      rw [(by kernel_rfl : Try.prog.cellsOf 76 = 4)] at h1
      obtain ⟨_, hlen, hc⟩ := World.cells?_some h1
      obtain ⟨xs, k, hk, hxy, _, hxl, hf⟩ := DataW.trod_struct Try.underlying76 h2
      match xs, hxl, cs', hlen with
      | [y0, y1, y2, y3], _, [c0, c1, c2, c3], _ =>
        have g0 : DataW.trod enc Try.prog w 0 (fun _ => true) true k 3 ((List.drop 0 [c0, c1, c2, c3]).take (Try.prog.cellsOf 3)) = some y0 := hf 0 _ rfl
        rw [(by kernel_rfl : Try.prog.cellsOf 3 = 1)] at g0
        have g1 : DataW.trod enc Try.prog w 0 (fun _ => true) true k 3 ((List.drop 1 [c0, c1, c2, c3]).take (Try.prog.cellsOf 3)) = some y1 := hf 1 _ rfl
        rw [(by kernel_rfl : Try.prog.cellsOf 3 = 1)] at g1
        have g2 : DataW.trod enc Try.prog w 0 (fun _ => true) true k 3 ((List.drop 2 [c0, c1, c2, c3]).take (Try.prog.cellsOf 3)) = some y2 := hf 2 _ rfl
        rw [(by kernel_rfl : Try.prog.cellsOf 3 = 1)] at g2
        have g3 : DataW.trod enc Try.prog w 0 (fun _ => true) true k 3 ((List.drop 3 [c0, c1, c2, c3]).take (Try.prog.cellsOf 3)) = some y3 := hf 3 _ rfl
        rw [(by kernel_rfl : Try.prog.cellsOf 3 = 1)] at g3
        obtain ⟨z0, e0, _, _⟩ := DataW.trod_int Try.underlying3 g0
        obtain ⟨z1, e1, _, _⟩ := DataW.trod_int Try.underlying3 g1
        obtain ⟨z2, e2, _, _⟩ := DataW.trod_int Try.underlying3 g2
        obtain ⟨z3, e3, _, _⟩ := DataW.trod_int Try.underlying3 g3
        simp at e0 e1 e2 e3
        subst e0 e1 e2 e3
        have k_0 := hc 0 (by omega)
        have k_1 := hc 1 (by omega)
        have k_2 := hc 2 (by omega)
        have k_3 := hc 3 (by omega)
        rw [Go.Deep.add_add] at k_0 k_1 k_2 k_3
        exact ⟨⟨z0, z1, z2, z3⟩, by simpa using k_0, by simpa using k_1, by simpa using k_2, by simpa using k_3⟩
    haveI : Inhabited Lk := ⟨Lk.nil⟩
    obtain ⟨q, hq⟩ := Go.Deep.choose_lt each
    refine ⟨some a, m, (List.range len).map q, by simpa using hcell _ hcs, by simpa using Nat.le_trans hl hm, fun hp => ?_, fun e => by cases e⟩
    simp at hp
    obtain ⟨b, off, spot⟩ := a
    have hspot : spot = none := by simpa [Addr.add] using World.cell?_spot (hq 0 (by omega)).1
    subst hspot
    refine ⟨b, off, rfl, fun j v hv => ?_⟩
    have hjl : j < len * 4 := by
      have := (List.getElem?_eq_some_iff.1 hv).1
      rw [fcells_len lkEnc_len] at this
      simpa using this
    have hi : j / 4 < len := by omega
    have hr : j % 4 < 4 := Nat.mod_lt _ (by omega)
    have e : j = j / 4 * 4 + j % 4 := by omega
    rw [e, fcells_at lkEnc_len Lk.nil _ _ _ (by simpa using hi) hr, show ((List.range len).map q).getD (j / 4) Lk.nil = q (j / 4) by simp [List.getD, hi]] at hv
    obtain ⟨k0, k1, k2, k3⟩ := hq (j / 4) (by omega)
    simp only [add_plain] at k0 k1 k2 k3
    rw [e]
    generalize j % 4 = r at hv hr
    have hcase : r = 0 ∨ r = 1 ∨ r = 2 ∨ r = 3 := by omega
    rcases hcase with rfl | rfl | rfl | rfl
    · cases hv; simpa [Nat.add_assoc] using k0
    · cases hv; simpa [Nat.add_assoc] using k1
    · cases hv; simpa [Nat.add_assoc] using k2
    · cases hv; simpa [Nat.add_assoc] using k3
theorem lkSz (ad : Option Addr) (len cap : Nat) (left : Int) (w : World) (h0 : 0 ≤ left) (h1 : left ≤ 1048576) (hm : len ≤ maxLen) :
    Calls Try.prog 20 #[.slice ad len cap, .int .i64 left] w fun e w' => e = .returned (.int .i64 (if (len : Int) ≤ left then left - len else -1)) ∧ w' = w := by
  unfold maxLen at hm
  by_cases h : (len : Int) ≤ left
  · rw [if_pos h]
    have h2 : 0 ≤ left - (len : Int) := by omega
    go_enter Try.func20, Try.ntmps20
    go_wp2
    go_ret
    exact ⟨rfl, rfl⟩
  · rw [if_neg h]
    have h2 : left - (len : Int) < 0 := by omega
    go_enter Try.func20, Try.ntmps20
    go_wp2
    go_ret
    exact ⟨rfl, rfl⟩
theorem toLk (x : Lk) (w : World) :
    Calls Try.prog 45 #[.agg #[.int .i64 x.a, .int .i64 x.p, .int .i64 x.b, .int .i64 x.q]] w fun e w' => e = .returned (.agg #[.int .i64 x.a, .int .i64 x.p, .int .i64 x.b, .int .i64 x.q]) ∧ Below w.heap.size w w' := by
  go_enter Try.func45, Try.ntmps45
  go_wp2
  refine bodyPost_ret (v := .agg #[.int .i64 x.a, .int .i64 x.p, .int .i64 x.b, .int .i64 x.q]) (by simp [results, Try.results45, go_sem]) rfl ⟨rfl, ?_⟩
  exact (((Below.refl _ _).alloc (Nat.le_refl _) _).alloc (by simp) _).alloc (by simp; omega) _
theorem eqLk (x : Lk) (w : World) :
    Calls Try.prog 52 #[.agg #[.int .i64 x.a, .int .i64 x.p, .int .i64 x.b, .int .i64 x.q], .agg #[.int .i64 x.a, .int .i64 x.p, .int .i64 x.b, .int .i64 x.q]] w fun e w' => e = .returned (.bool true) ∧ Below w.heap.size w w' := by
  go_enter Try.func52, Try.ntmps52
  go_wp2
  go_ret
  exact ⟨rfl, ((Below.refl _ _).alloc (Nat.le_refl _) _).alloc (by simp) _⟩

end Go.Proofs.Ytdfjfodfnildiab
