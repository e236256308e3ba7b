/- Lists of bridges in memory. Lists of links: how they come in. What is NetOk, in plain lists. What a new net is, in plain lists. Bridges: marked. Lists of bridges, copied. Lists of links, compared. -/
import Derived.Test.YtemibefbkjpnaaaGreatRows
import Derived.WalkKit
import Derived.ProofKit
import Derived.OpenShut
import Derived.ShutString
import Derived.ChangeOld
import Derived.Below
import Derived.Deep.QuietTactic
import Derived.BigQuiet
import Derived.WalkSmall
import Derived.Laws.OwnMore
import Derived.WalkSpells
import Derived.WalkLawsBesides
import Derived.Test.YtemibefbkjpnaaaGreatKPts3
import Derived.Deep.Slices
import Derived.Lib.SmallJoins
import Derived.Test.YtemibefbkjpnaaaGreatM1
import Derived.Deep.Cut
import Derived.Test.YtemibefbkjpnaaaGreatKRe3
import Derived.Test.YtemibefbkjpnaaaGreatM7
import Derived.Test.YtemibefbkjpnaaaGreatM5
import Derived.Test.YtemibefbkjpnaaaGreatM2
namespace Go.Proofs.YtemibefbkjpnaaaGreat
open Go.ChangeShapes Go.WideShapes Go.ChangeAt Go.RowKit
open Go.ChangeMaps (open_string shut_string)
set_option linter.unusedVariables false
set_option maxRecDepth 100000

/-- A bridge: its number, its ports. -/
structure Bg where
  id : Int
  L : List Pt
def Bg.nil : Bg := ⟨0, []⟩
/-- A bridge of a list: its number, and where its own list lies. -/
structure Bd where
  id : Int
  ad : Option Addr
  cap : Nat
  L : List Pt
def Bd.nil : Bd := ⟨0, none, 0, []⟩
/-- What it says. -/
def Bd.d (m : Bd) : Bg := ⟨m.id, m.L⟩
/-- Its list, as a value. -/
def Bd.v (m : Bd) : Value := .slice m.ad m.L.length m.cap
def bdEnc (x : Bd) : List Value := [.int .i64 x.id, .slice x.ad x.L.length x.cap]
theorem bdEnc_len (x : Bd) : (bdEnc x).length = 2 := rfl
theorem bdEnc_ones (L : List Bd) : ∀ u ∈ fcells bdEnc L, u.oneCell' = true := by
  induction L with
  | nil => intro u h; cases h
  | cons x L ih =>
    intro u h
    simp only [fcells, bdEnc, List.mem_append, List.mem_cons, List.not_mem_nil, or_false] at h
    rcases h with (rfl | rfl) | h
    · rfl
    · rfl
    · exact ih u h
/-- What its cells hold, in a world. -/
structure BdAtO (w : World) (b o : Nat) (x : Bd) : Prop where
  c0 : w.cell? ⟨b, o, none⟩ = some (.int .i64 x.id)
  c1 : w.cell? ⟨b, o + 1, none⟩ = some (.slice x.ad x.L.length x.cap)
theorem bdAtO_of {w : World} {b o : Nat} {x : Bd} (h : ∀ j v, (bdEnc x)[j]? = some v → w.cell? ⟨b, o + j, none⟩ = some v) : BdAtO w b o x := ⟨h 0 _ rfl, h 1 _ rfl⟩
theorem bdPut (w : World) (g o : Nat) (x : Bd) : putAll w g o (bdEnc x) = ((w.setCell ⟨g, o, none⟩ (.int .i64 x.id)).setCell ⟨g, o + 1, none⟩ (.slice x.ad x.L.length x.cap)) := rfl
theorem bd_get (Bs : List Bd) (i : Nat) : (Bs.map Bd.d).getD i Bg.nil = (Bs.getD i Bd.nil).d := by
  simp only [List.getD, List.getElem?_map]
  cases Bs[i]? <;> rfl
/-- The slice at 'ad' reads as the list Bs of bridges. -/
structure NV (w : World) (ad : Option Addr) (Bs : List Bd) : Prop where
  row : FView bdEnc w ad Bs
  nest : ∀ i, i < Bs.length → FView ptEnc w (Bs.getD i Bd.nil).ad (Bs.getD i Bd.nil).L
  nil0 : ∀ i, i < Bs.length → (Bs.getD i Bd.nil).ad = none → (Bs.getD i Bd.nil).cap = 0
theorem NV.nil {w : World} {ad : Option Addr} : NV w ad [] := ⟨FView.nil, fun i h => absurd h (by simp), fun i h => absurd h (by simp)⟩
theorem NV.below {w w' : World} {ad : Option Addr} {Bs : List Bd} {B : Nat} (h : NV w ad Bs) (k : Below B w w') (hB : w.heap.size ≤ B) : NV w' ad Bs :=
  ⟨h.row.below k (fun a e p => Nat.lt_of_lt_of_le (h.row.lt bdEnc_len (by omega) a e p) hB), fun i hi => (h.nest i hi).below k (fun a e p => Nat.lt_of_lt_of_le ((h.nest i hi).lt ptEnc_len (by omega) a e p) hB), h.nil0⟩
theorem NV.carry {w w' : World} {ad : Option Addr} {Bs : List Bd} (h : NV w ad Bs) (k : ∀ g, g < w.heap.size → w'.heap[g]? = w.heap[g]?) : NV w' ad Bs :=
  ⟨h.row.carry (fun a e p => k _ (h.row.lt bdEnc_len (by omega) a e p)), fun i hi => (h.nest i hi).carry (fun a e p => k _ ((h.nest i hi).lt ptEnc_len (by omega) a e p)), h.nil0⟩
theorem NV.at_ {w : World} {b off : Nat} {Bs : List Bd} (h : NV w (some ⟨b, off, none⟩) Bs) {i : Nat} (hi : i < Bs.length) : BdAtO w b (off + i * 2) (Bs.getD i Bd.nil) := bdAtO_of (h.row.at_ bdEnc_len Bd.nil hi)
theorem NV.ad_ {w : World} {ad : Option Addr} {Bs : List Bd} (h : NV w ad Bs) (hp : 0 < Bs.length) : ∃ b off, ad = some ⟨b, off, none⟩ := by
  obtain ⟨b, off, e, _⟩ := h.row hp
  exact ⟨b, off, e⟩
/-- A list of bridges whose memory is its own, from lo on below hi. -/
structure NOwn (lo hi : Nat) (w : World) (v : Value) (Bs : List Bd) : Prop where
  row : FOwn bdEnc 2 40 lo w v Bs
  nest : ∀ i, i < Bs.length → FOwn ptEnc 11 75 lo w (Bs.getD i Bd.nil).v (Bs.getD i Bd.nil).L
  rhi : ∀ g, v.ownBlock = some g → g < hi
  nhi : ∀ i, i < Bs.length → ∀ g, (Bs.getD i Bd.nil).v.ownBlock = some g → g < hi
  apart : ∀ i, i < Bs.length → ∀ g h, v.ownBlock = some g → (Bs.getD i Bd.nil).v.ownBlock = some h → g ≠ h
  aparts : ∀ i j, i < j → j < Bs.length → ∀ g h, (Bs.getD i Bd.nil).v.ownBlock = some g → (Bs.getD j Bd.nil).v.ownBlock = some h → g ≠ h
theorem own_none {X : Type} {enc : X → List Value} {n : Nat} {T : TypeId} {base : Nat} {w : World} {len cap : Nat} {L : List X} (h : FOwn enc n T base w (.slice none len cap) L) : cap = 0 := by
  rcases h.2 with ⟨q, _⟩ | ⟨g, c, cur, q, _⟩
  · simp only [Value.slice.injEq] at q
    exact q.2.2
  · simp at q
theorem NOwn.view {lo hi : Nat} {w : World} {ad : Option Addr} {len cap : Nat} {Bs : List Bd} (h : NOwn lo hi w (.slice ad len cap) Bs) : len = Bs.length ∧ NV w ad Bs := by
  refine ⟨h.row.view.1, h.row.view.2, fun i hi => (h.nest i hi).view.2, fun i hi e => ?_⟩
  have := h.nest i hi
  unfold Bd.v at this
  rw [e] at this
  exact own_none this
theorem NOwn.keep {lo hi : Nat} {w w' : World} {v : Value} {Bs : List Bd} (h : NOwn lo hi w v Bs) (k : ∀ g, lo ≤ g → g < hi → w'.heap[g]? = w.heap[g]?) : NOwn lo hi w' v Bs :=
  ⟨h.row.keep (fun g e => k g (h.row.lt g e).1 (h.rhi g e)), fun i hi => (h.nest i hi).keep (fun g e => k g ((h.nest i hi).lt g e).1 (h.nhi i hi g e)), h.rhi, h.nhi, h.apart, h.aparts⟩
theorem NOwn.wide {lo hi lo' hi' : Nat} {w : World} {v : Value} {Bs : List Bd} (h : NOwn lo hi w v Bs) (h1 : lo' ≤ lo) (h2 : hi ≤ hi') : NOwn lo' hi' w v Bs :=
  ⟨h.row.base h1, fun i hi => (h.nest i hi).base h1, fun g e => Nat.lt_of_lt_of_le (h.rhi g e) h2, fun i hi g e => Nat.lt_of_lt_of_le (h.nhi i hi g e) h2, h.apart, h.aparts⟩
theorem NOwn.below {lo hi B : Nat} {w w' : World} {v : Value} {Bs : List Bd} (h : NOwn lo hi w v Bs) (k : Below B w w') (hB : hi ≤ B) : NOwn lo hi w' v Bs := h.keep fun g _ hg => k.block _ (by omega)

end Go.Proofs.YtemibefbkjpnaaaGreat
namespace Go.Proofs.YtemibefbkjpnaaaGreat
open Go.ChangeShapes Go.WideShapes Go.ChangeAt Go.RowKit
open Go.ChangeMaps (open_string shut_string)
set_option linter.unusedVariables false
set_option maxRecDepth 100000

/-- A link: its cells. -/
structure Lk where
  a : Int
  p : Int
  b : Int
  q : Int
def Lk.nil : Lk := ⟨0, 0, 0, 0⟩
def lkEnc (x : Lk) : List Value := [.int .i64 x.a, .int .i64 x.p, .int .i64 x.b, .int .i64 x.q]
theorem lkEnc_len (x : Lk) : (lkEnc x).length = 4 := rfl
theorem lkEnc_ones (L : List Lk) : ∀ u ∈ fcells lkEnc L, u.oneCell' = true := by
  induction L with
  | nil => intro u h; cases h
  | cons x L ih =>
    intro u h
    simp only [fcells, lkEnc, List.mem_append, List.mem_cons, List.not_mem_nil, or_false] at h
    rcases h with (rfl | rfl | rfl | rfl) | h
    · rfl
    · rfl
    · rfl
    · rfl
    · exact ih u h
/-- What its cells hold, in a world. -/
structure LkAtO (w : World) (b o : Nat) (x : Lk) : Prop where
  c0 : w.cell? ⟨b, o, none⟩ = some (.int .i64 x.a)
  c1 : w.cell? ⟨b, o + 1, none⟩ = some (.int .i64 x.p)
  c2 : w.cell? ⟨b, o + 2, none⟩ = some (.int .i64 x.b)
  c3 : w.cell? ⟨b, o + 3, none⟩ = some (.int .i64 x.q)
theorem lkAtO_of {w : World} {b o : Nat} {x : Lk} (h : ∀ j v, (lkEnc x)[j]? = some v → w.cell? ⟨b, o + j, none⟩ = some v) : LkAtO w b o x := ⟨h 0 _ rfl, h 1 _ rfl, h 2 _ rfl, h 3 _ rfl⟩
theorem lkPut (w : World) (g o : Nat) (x : Lk) : putAll w g o (lkEnc x) = ((((w.setCell ⟨g, o, none⟩ (.int .i64 x.a)).setCell ⟨g, o + 1, none⟩ (.int .i64 x.p)).setCell ⟨g, o + 2, none⟩ (.int .i64 x.b)).setCell ⟨g, o + 3, none⟩ (.int .i64 x.q)) := rfl
set_option maxRecDepth 100000 in
theorem lkRow_open {H : Type} {enc : TypeId × Value → H} {w : World} {n0 : Nat} {v : Value} {x : DataW H × List MemPlace} (hn : DataW.trod enc Tryz.prog w 0 (fun _ => true) true n0 50 [v] = some x) :
    ∃ ad cap L, v = .slice ad L.length cap ∧ L.length ≤ maxLen ∧ FView lkEnc w ad L ∧ (ad = none → cap = 0) := by
  have hs := Go.Deep.open_slice Tryz.underlying50 hn
  have hcell : ∀ x, [v] = [x] → v = x := fun x h => by simpa using h
  rcases hs with ⟨hcs, _⟩ | ⟨a, len, cap, m, n, D, Pl, hcs, _, hl, hm, hmm, _, hx⟩
  · exact ⟨none, 0, [], hcell _ hcs, by simp, FView.nil, fun _ => rfl⟩
  · simp at hmm
    subst hmm
    have each : ∀ i, i < m → ∃ q : Lk, w.cell? (a.add (i * 4)) = some (.int .i64 q.a) ∧ w.cell? (a.add (i * 4 + 1)) = some (.int .i64 q.p) ∧ w.cell? (a.add (i * 4 + 2)) = some (.int .i64 q.b) ∧ w.cell? (a.add (i * 4 + 3)) = some (.int .i64 q.q) := by
      intro i hi
      obtain ⟨cs', h1, h2⟩ := hx i hi
      rw [(by kernel_rfl : Tryz.prog.cellsOf 103 = 4)] at h1
      obtain ⟨_, hlen, hc⟩ := World.cells?_some h1
      obtain ⟨xs, k, hk, hxy, _, hxl, hf⟩ := DataW.trod_struct Tryz.underlying103 h2
      match xs, hxl, cs', hlen with
      | [y0, y1, y2, y3], _, [c0, c1, c2, c3], _ =>
        have g0 : DataW.trod enc Tryz.prog w 0 (fun _ => true) true k 3 ((List.drop 0 [c0, c1, c2, c3]).take (Tryz.prog.cellsOf 3)) = some y0 := hf 0 _ rfl
        rw [(by kernel_rfl : Tryz.prog.cellsOf 3 = 1)] at g0
        have g1 : DataW.trod enc Tryz.prog w 0 (fun _ => true) true k 3 ((List.drop 1 [c0, c1, c2, c3]).take (Tryz.prog.cellsOf 3)) = some y1 := hf 1 _ rfl
        rw [(by kernel_rfl : Tryz.prog.cellsOf 3 = 1)] at g1
        have g2 : DataW.trod enc Tryz.prog w 0 (fun _ => true) true k 3 ((List.drop 2 [c0, c1, c2, c3]).take (Tryz.prog.cellsOf 3)) = some y2 := hf 2 _ rfl
        rw [(by kernel_rfl : Tryz.prog.cellsOf 3 = 1)] at g2
        have g3 : DataW.trod enc Tryz.prog w 0 (fun _ => true) true k 3 ((List.drop 3 [c0, c1, c2, c3]).take (Tryz.prog.cellsOf 3)) = some y3 := hf 3 _ rfl
        rw [(by kernel_rfl : Tryz.prog.cellsOf 3 = 1)] at g3
        obtain ⟨z0, e0, _, _⟩ := DataW.trod_int Tryz.underlying3 g0
        obtain ⟨z1, e1, _, _⟩ := DataW.trod_int Tryz.underlying3 g1
        obtain ⟨z2, e2, _, _⟩ := DataW.trod_int Tryz.underlying3 g2
        obtain ⟨z3, e3, _, _⟩ := DataW.trod_int Tryz.underlying3 g3
        simp at e0 e1 e2 e3
        subst e0 e1 e2 e3
        have k_0 := hc 0 (by omega)
        have k_1 := hc 1 (by omega)
        have k_2 := hc 2 (by omega)
        have k_3 := hc 3 (by omega)
        rw [Go.Deep.add_add] at k_0 k_1 k_2 k_3
        exact ⟨⟨z0, z1, z2, z3⟩, by simpa using k_0, by simpa using k_1, by simpa using k_2, by simpa using k_3⟩
    haveI : Inhabited Lk := ⟨Lk.nil⟩
    obtain ⟨q, hq⟩ := Go.Deep.choose_lt each
    refine ⟨some a, m, (List.range len).map q, by simpa using hcell _ hcs, by simpa using Nat.le_trans hl hm, fun hp => ?_, fun e => by cases e⟩
    simp at hp
    obtain ⟨b, off, spot⟩ := a
    have hspot : spot = none := by simpa [Addr.add] using World.cell?_spot (hq 0 (by omega)).1
    subst hspot
    refine ⟨b, off, rfl, fun j v hv => ?_⟩
    have hjl : j < len * 4 := by
      have := (List.getElem?_eq_some_iff.1 hv).1
      rw [fcells_len lkEnc_len] at this
      simpa using this
    have hi : j / 4 < len := by omega
    have hr : j % 4 < 4 := Nat.mod_lt _ (by omega)
    have e : j = j / 4 * 4 + j % 4 := by omega
    rw [e, fcells_at lkEnc_len Lk.nil _ _ _ (by simpa using hi) hr, show ((List.range len).map q).getD (j / 4) Lk.nil = q (j / 4) by simp [List.getD, hi]] at hv
    obtain ⟨k0, k1, k2, k3⟩ := hq (j / 4) (by omega)
    simp only [add_plain] at k0 k1 k2 k3
    rw [e]
    generalize j % 4 = r at hv hr
    have hcase : r = 0 ∨ r = 1 ∨ r = 2 ∨ r = 3 := by omega
    rcases hcase with rfl | rfl | rfl | rfl
    · cases hv; simpa [Nat.add_assoc] using k0
    · cases hv; simpa [Nat.add_assoc] using k1
    · cases hv; simpa [Nat.add_assoc] using k2
    · cases hv; simpa [Nat.add_assoc] using k3
theorem lkSz (ad : Option Addr) (len cap : Nat) (left : Int) (w : World) (h0 : 0 ≤ left) (h1 : left ≤ 1048576) (hm : len ≤ maxLen) :
    Calls Tryz.prog 26 #[.slice ad len cap, .int .i64 left] w fun e w' => e = .returned (.int .i64 (if (len : Int) ≤ left then left - len else -1)) ∧ w' = w := by
  unfold maxLen at hm
  by_cases h : (len : Int) ≤ left
  · rw [if_pos h]
    have h2 : 0 ≤ left - (len : Int) := by omega
    go_enter Tryz.func26, Tryz.ntmps26
    go_wp2
    go_ret
    exact ⟨rfl, rfl⟩
  · rw [if_neg h]
    have h2 : left - (len : Int) < 0 := by omega
    go_enter Tryz.func26, Tryz.ntmps26
    go_wp2
    go_ret
    exact ⟨rfl, rfl⟩
theorem toLk (x : Lk) (w : World) :
    Calls Tryz.prog 72 #[.agg #[.int .i64 x.a, .int .i64 x.p, .int .i64 x.b, .int .i64 x.q]] w fun e w' => e = .returned (.agg #[.int .i64 x.a, .int .i64 x.p, .int .i64 x.b, .int .i64 x.q]) ∧ Below w.heap.size w w' := by
  go_enter Tryz.func72, Tryz.ntmps72
  go_wp2
  refine bodyPost_ret (v := .agg #[.int .i64 x.a, .int .i64 x.p, .int .i64 x.b, .int .i64 x.q]) (by simp [results, Tryz.results72, go_sem]) rfl ⟨rfl, ?_⟩
  exact (((Below.refl _ _).alloc (Nat.le_refl _) _).alloc (by simp) _).alloc (by simp; omega) _
theorem eqLk (x : Lk) (w : World) :
    Calls Tryz.prog 74 #[.agg #[.int .i64 x.a, .int .i64 x.p, .int .i64 x.b, .int .i64 x.q], .agg #[.int .i64 x.a, .int .i64 x.p, .int .i64 x.b, .int .i64 x.q]] w fun e w' => e = .returned (.bool true) ∧ Below w.heap.size w w' := by
  go_enter Tryz.func74, Tryz.ntmps74
  go_wp2
  go_ret
  exact ⟨rfl, ((Below.refl _ _).alloc (Nat.le_refl _) _).alloc (by simp) _⟩

end Go.Proofs.YtemibefbkjpnaaaGreat
namespace Go.Proofs.YtemibefbkjpnaaaGreat
open Go.ChangeShapes Go.WideShapes Go.ChangeAt Go.RowKit
open Go.ChangeMaps (open_string shut_string)
set_option linter.unusedVariables false
set_option maxRecDepth 100000

/-- A port of a net. -/
def pt (B : List Bg) (i x : Nat) : Pt := (B.getD i Bg.nil).L.getD x Pt.nil
def otherL : List Lk → Int → Int → Option (Int × Int)
  | [], _, _ => none
  | l :: K, a, p => if l.a = a ∧ l.p = p then some (l.b, l.q) else if l.b = a ∧ l.q = p then some (l.a, l.p) else otherL K a p
def onceL : List Lk → Int → Int → Int
  | [], _, _ => 0
  | l :: K, a, p => (if l.a = a ∧ l.p = p then 1 else 0) + (if l.b = a ∧ l.q = p then 1 else 0) + onceL K a p
theorem once_nonneg (K : List Lk) (a p : Int) : 0 ≤ onceL K a p := by
  induction K with
  | nil => simp [onceL]
  | cons l K ih => unfold onceL; split <;> split <;> omega
theorem once_most (K : List Lk) (a p : Int) : onceL K a p ≤ 2 * (K.length : Int) := by
  induction K with
  | nil => simp [onceL]
  | cons l K ih => unfold onceL; simp only [List.length_cons]; split <;> split <;> omega
theorem once_app (K M : List Lk) (a p : Int) : onceL (K ++ M) a p = onceL K a p + onceL M a p := by
  induction K with
  | nil => simp [onceL]
  | cons l K ih => simp only [List.cons_append, onceL, ih]; omega
theorem take_one {X : Type} (K : List X) (d : X) {j : Nat} (h : j < K.length) : K.take (j + 1) = K.take j ++ [K.getD j d] := by
  rw [List.take_add_one, List.getElem?_eq_getElem h]
  simp [List.getD, h]
theorem once_take (K : List Lk) (a p : Int) {j : Nat} (h : j < K.length) : onceL (K.take (j + 1)) a p = onceL (K.take j) a p + ((if (K.getD j Lk.nil).a = a ∧ (K.getD j Lk.nil).p = p then 1 else 0) + (if (K.getD j Lk.nil).b = a ∧ (K.getD j Lk.nil).q = p then 1 else 0)) := by
  rw [take_one K Lk.nil h, once_app]
  simp [onceL]
theorem once_in {K : List Lk} {l : Lk} (h : l ∈ K) : 1 ≤ onceL K l.a l.p ∧ 1 ≤ onceL K l.b l.q := by
  induction K with
  | nil => cases h
  | cons x K ih =>
    unfold onceL
    rcases List.mem_cons.1 h with rfl | h
    · have h1 := once_nonneg K l.a l.p
      have h2 := once_nonneg K l.b l.q
      constructor
      · rw [if_pos ⟨rfl, rfl⟩]; split <;> omega
      · rw [if_pos (show l.b = l.b ∧ l.q = l.q from ⟨rfl, rfl⟩)]; split <;> omega
    · obtain ⟨h1, h2⟩ := ih h
      constructor
      · split <;> split <;> omega
      · split <;> split <;> omega
/-- There is such a port. -/
def PortP (B : List Bg) (a p : Int) : Prop := (0 ≤ a ∧ a < (B.length : Int)) ∧ (0 ≤ p ∧ p < ((B.getD a.toNat Bg.nil).L.length : Int))
/-- There is such a port, and it is up. -/
def EndP (B : List Bg) (a p : Int) : Prop := (0 ≤ a ∧ a < (B.length : Int)) ∧ (0 ≤ p ∧ p < ((B.getD a.toNat Bg.nil).L.length : Int)) ∧ (pt B a.toNat p.toNat).up = true
/-- What is NetOk. -/
structure NetP (B : List Bg) (K : List Lk) : Prop where
  many : 1 ≤ B.length ∧ B.length ≤ 5
  few : K.length ≤ 6
  ok : ∀ i, i < B.length → bOk (B.getD i Bg.nil).id (B.getD i Bg.nil).L = true
  inj : ∀ i j, i < B.length → j < B.length → (B.getD i Bg.nil).id = (B.getD j Bg.nil).id → i = j
  once : ∀ i x, i < B.length → x < (B.getD i Bg.nil).L.length → onceL K i x = if (pt B i x).up then 1 else 0
  link : ∀ l, l ∈ K → l.a ≠ l.b ∧ EndP B l.a l.p ∧ EndP B l.b l.q
/-- The numbers of the first n are unlike. -/
def Unlike (B : List Bg) (n : Nat) : Prop := ∀ i k, i < n → k < i → (B.getD k Bg.nil).id ≠ (B.getD i Bg.nil).id
theorem unlike_inj {B : List Bg} (h : Unlike B B.length) : ∀ i j, i < B.length → j < B.length → (B.getD i Bg.nil).id = (B.getD j Bg.nil).id → i = j := by
  intro i j hi hj e
  rcases Nat.lt_trichotomy i j with q | q | q
  · exact absurd e (h j i hj q)
  · exact q
  · exact absurd e.symm (h i j hi q)
/-- The program asks of the links' ends only that they are; the ports tell the rest. -/
theorem end_up {B : List Bg} {K : List Lk} (ho : ∀ i x, i < B.length → x < (B.getD i Bg.nil).L.length → onceL K i x = if (pt B i x).up then 1 else 0) {a p : Int} (h : PortP B a p) (h1 : 1 ≤ onceL K a p) : EndP B a p := by
  obtain ⟨⟨a1, a2⟩, p1, p2⟩ := h
  refine ⟨⟨a1, a2⟩, ⟨p1, p2⟩, ?_⟩
  have := ho a.toNat p.toNat (by omega) (by omega)
  rw [show ((a.toNat : Nat) : Int) = a by omega, show ((p.toNat : Nat) : Int) = p by omega] at this
  cases hu : (pt B a.toNat p.toNat).up
  · rw [hu] at this
    have : onceL K a p = 0 := by simpa using this
    omega
  · rfl
theorem EndP.port {B : List Bg} {a p : Int} (h : EndP B a p) : PortP B a p := ⟨h.1, h.2.1⟩
/-- It answers whether Q holds. -/
def YN (e : Ending) (Q : Prop) : Prop := ∃ R : Bool, e = .returned (.bool R) ∧ (R = true ↔ Q)
theorem YN.no {Q : Prop} (h : ¬ Q) : YN (.returned (.bool false)) Q := ⟨false, rfl, ⟨fun h => (by cases h), fun q => absurd q h⟩⟩
theorem YN.yes {Q : Prop} (h : Q) : YN (.returned (.bool true)) Q := ⟨true, rfl, ⟨fun _ => h, fun _ => rfl⟩⟩
theorem YN.is {Q : Prop} {R : Bool} (h : R = true ↔ Q) : YN (.returned (.bool R)) Q := ⟨R, rfl, h⟩

end Go.Proofs.YtemibefbkjpnaaaGreat
namespace Go.Proofs.YtemibefbkjpnaaaGreat
open Go.ChangeShapes Go.WideShapes Go.ChangeAt Go.RowKit
open Go.ChangeMaps (open_string shut_string)
set_option linter.unusedVariables false
set_option maxRecDepth 100000

/-- A port that came up. -/
def upPt : Pt := ⟨true, false, 0, 0, 0, 0, 0, 0, 2, 4, false⟩
def linkIk (q : Int) : Ik := ⟨3, q, 0, 0, 0, 0, 0, true⟩
/-- Four ports, of which those of S are up. -/
def mkS (S : Nat → Bool) : List Pt := [if S 0 then upPt else Pt.nil, if S 1 then upPt else Pt.nil, if S 2 then upPt else Pt.nil, if S 3 then upPt else Pt.nil]
def mkB (b0 b1 b2 b3 : Bool) : List Pt := [if b0 then upPt else Pt.nil, if b1 then upPt else Pt.nil, if b2 then upPt else Pt.nil, if b3 then upPt else Pt.nil]
def lsEq : List Pt → List Pt → Bool
  | [], [] => true
  | x :: L, y :: M => ptEq x y && lsEq L M
  | _, _ => false
theorem lsEq_eq : ∀ {L M : List Pt}, lsEq L M = true → L = M
  | [], [], _ => rfl
  | x :: L, y :: M, h => by
    simp only [lsEq, Bool.and_eq_true] at h
    have hx : x = y := by
      have q := h.1
      obtain ⟨a0, a1, a2, a3, a4, a5, a6, a7, a8, a9, a10⟩ := x
      obtain ⟨b0, b1, b2, b3, b4, b5, b6, b7, b8, b9, b10⟩ := y
      simpa [ptEq] using q
    rw [hx, lsEq_eq h.2]
  | [], _ :: _, h => by simp [lsEq] at h
  | _ :: _, [], h => by simp [lsEq] at h
def bls : List Bool := [false, true]
def raiseChk : Bool := (List.range 9).all fun i => bls.all fun b0 => bls.all fun b1 => bls.all fun b2 => bls.all fun b3 =>
  lsEq (reactL (((i + 1 : Nat)) : Int) (mkB b0 b1 b2 b3) (linkIk 0)) (mkB true b1 b2 b3) && lsEq (reactL (((i + 1 : Nat)) : Int) (mkB b0 b1 b2 b3) (linkIk 1)) (mkB b0 true b2 b3) && lsEq (reactL (((i + 1 : Nat)) : Int) (mkB b0 b1 b2 b3) (linkIk 2)) (mkB b0 b1 true b3) && lsEq (reactL (((i + 1 : Nat)) : Int) (mkB b0 b1 b2 b3) (linkIk 3)) (mkB b0 b1 b2 true)
set_option maxRecDepth 100000 in
theorem raise_chk : raiseChk = true := by kernel_rfl
theorem raise_all {id : Int} (h : 1 ≤ id ∧ id ≤ 9) (b0 b1 b2 b3 : Bool) : reactL id (mkB b0 b1 b2 b3) (linkIk 0) = mkB true b1 b2 b3 ∧ reactL id (mkB b0 b1 b2 b3) (linkIk 1) = mkB b0 true b2 b3 ∧ reactL id (mkB b0 b1 b2 b3) (linkIk 2) = mkB b0 b1 true b3 ∧ reactL id (mkB b0 b1 b2 b3) (linkIk 3) = mkB b0 b1 b2 true := by
  have hc := raise_chk
  unfold raiseChk at hc
  have hb : ∀ b : Bool, b ∈ bls := fun b => by cases b <;> simp [bls]
  have := List.all_eq_true.1 hc (id.toNat - 1) (List.mem_range.2 (by omega))
  have := List.all_eq_true.1 this b0 (hb b0)
  have := List.all_eq_true.1 this b1 (hb b1)
  have := List.all_eq_true.1 this b2 (hb b2)
  have := List.all_eq_true.1 this b3 (hb b3)
  rw [show (((id.toNat - 1 + 1 : Nat)) : Int) = id by omega] at this
  simp only [Bool.and_eq_true] at this
  obtain ⟨⟨⟨t0, t1⟩, t2⟩, t3⟩ := this
  exact ⟨lsEq_eq t0, lsEq_eq t1, lsEq_eq t2, lsEq_eq t3⟩
theorem raise_S {id : Int} (h : 1 ≤ id ∧ id ≤ 9) (S : Nat → Bool) {p : Nat} (hp : p < 4) : reactL id (mkS S) (linkIk (p : Int)) = mkS (fun x => S x || x == p) := by
  have r := raise_all h (S 0) (S 1) (S 2) (S 3)
  have e : ∀ T : Nat → Bool, mkS T = mkB (T 0) (T 1) (T 2) (T 3) := fun T => rfl
  rw [e, e]
  rcases (by omega : p = 0 ∨ p = 1 ∨ p = 2 ∨ p = 3) with rfl | rfl | rfl | rfl
  · simpa using r.1
  · simpa using r.2.1
  · simpa using r.2.2.1
  · simpa using r.2.2.2
theorem mkS_len (S : Nat → Bool) : (mkS S).length = 4 := rfl
theorem mkS_congr {S T : Nat → Bool} (h : ∀ x, x < 4 → S x = T x) : mkS S = mkS T := by
  unfold mkS
  rw [h 0 (by omega), h 1 (by omega), h 2 (by omega), h 3 (by omega)]
theorem mkS_none : mkS (fun _ => false) = List.replicate 4 Pt.nil := rfl
/-- A bridge of a new net. -/
def newBg (id : Int) (S : Nat → Bool) : Bg := if nOk id 4 then ⟨id, mkS S⟩ else ⟨0, []⟩
theorem newBg_0 (id : Int) : newBg id (fun _ => false) = ⟨newI id 4, newL id 4⟩ := by
  unfold newBg newI newL
  by_cases h : nOk id 4 = true
  · rw [if_pos h, if_pos h, if_pos h]; rfl
  · rw [if_neg h, if_neg h, if_neg h]
theorem newBg_congr {id : Int} {S T : Nat → Bool} (h : ∀ x, x < 4 → S x = T x) : newBg id S = newBg id T := by
  unfold newBg
  rw [mkS_congr h]
theorem nOk_4 {id : Int} (h : nOk id 4 = true) : 1 ≤ id ∧ id ≤ 9 := by
  unfold nOk at h
  simp only [Bool.and_eq_true, decide_eq_true_eq] at h
  exact h.1
theorem newBg_len (id : Int) (S : Nat → Bool) : (newBg id S).L.length ≤ 4 := by
  unfold newBg
  split
  · exact Nat.le_refl _
  · exact Nat.zero_le _
theorem newBg_raise (id : Int) (S : Nat → Bool) {p : Nat} (hp : p < (newBg id S).L.length) : (⟨(newBg id S).id, reactL (newBg id S).id (newBg id S).L (linkIk (p : Int))⟩ : Bg) = newBg id (fun x => S x || x == p) := by
  unfold newBg at hp ⊢
  by_cases h : nOk id 4 = true
  · rw [if_pos h] at hp ⊢
    rw [if_pos h]
    dsimp only
    rw [raise_S (nOk_4 h) S hp]
  · rw [if_neg h] at hp
    simp at hp
/-- The first n bridges of a new net. -/
def netN (ids : List Int) (T : Nat → Nat → Bool) (n : Nat) : List Bg := (List.range n).map fun i => newBg (ids.getD i 0) (T i)
theorem netN_len (ids : List Int) (T : Nat → Nat → Bool) (n : Nat) : (netN ids T n).length = n := by simp [netN]
theorem netN_get (ids : List Int) (T : Nat → Nat → Bool) {n i : Nat} (h : i < n) : (netN ids T n).getD i Bg.nil = newBg (ids.getD i 0) (T i) := by simp [netN, List.getD, h]
theorem netN_succ (ids : List Int) (T : Nat → Nat → Bool) (n : Nat) : netN ids T (n + 1) = netN ids T n ++ [newBg (ids.getD n 0) (T n)] := by simp [netN, List.range_succ]
theorem netN_congr {ids : List Int} {T U : Nat → Nat → Bool} {n : Nat} (h : ∀ i x, i < n → x < 4 → T i x = U i x) : netN ids T n = netN ids U n := by
  unfold netN
  refine List.map_congr_left fun i hi => newBg_congr fun x hx => h i x (List.mem_range.1 hi) hx
/-- Ports that some link names. -/
def ofK (K : List Lk) (i x : Nat) : Bool := decide (0 < onceL K i x)
/-- A port that comes up, if there is one. -/
def lift (T : Nat → Nat → Bool) (a p : Int) : Nat → Nat → Bool := fun i x => T i x || (decide ((i : Int) = a) && decide ((x : Int) = p))
theorem lift_no {ids : List Int} {T : Nat → Nat → Bool} {n : Nat} {a p : Int} (h : ¬ PortP (netN ids T n) a p) : netN ids (lift T a p) n = netN ids T n := by
  unfold netN
  refine List.map_congr_left fun i hi => ?_
  have hi := List.mem_range.1 hi
  by_cases q : nOk (ids.getD i 0) 4 = true
  · refine newBg_congr fun x hx => ?_
    unfold lift
    by_cases e : (i : Int) = a ∧ (x : Int) = p
    · exfalso
      refine h ⟨⟨by omega, by rw [netN_len]; omega⟩, by omega, ?_⟩
      rw [show a.toNat = i by omega, netN_get _ _ hi]
      unfold newBg
      rw [if_pos q]
      show p < ((mkS (T i)).length : Int)
      rw [mkS_len]
      omega
    · have : (decide ((i : Int) = a) && decide ((x : Int) = p)) = false := by
        rw [Bool.and_eq_false_iff]
        simp only [decide_eq_false_iff_not]
        by_cases e1 : (i : Int) = a
        · exact .inr (fun e2 => e ⟨e1, e2⟩)
        · exact .inl e1
      rw [this, Bool.or_false]
  · unfold newBg
    rw [if_neg q, if_neg q]
theorem lift_yes {ids : List Int} {T : Nat → Nat → Bool} {n : Nat} {a p : Nat} (ha : a < n) (hp : p < ((netN ids T n).getD a Bg.nil).L.length) : (netN ids T n).set a ⟨((netN ids T n).getD a Bg.nil).id, reactL ((netN ids T n).getD a Bg.nil).id ((netN ids T n).getD a Bg.nil).L (linkIk (p : Int))⟩ = netN ids (lift T a p) n := by
  rw [netN_get _ _ ha] at hp ⊢
  rw [newBg_raise _ _ hp]
  refine List.ext_getElem (by simp [netN]) fun i h1 h2 => ?_
  have hi : i < n := by simpa [netN] using h2
  rw [List.getElem_set]
  by_cases e : a = i
  · subst e
    rw [if_pos rfl]
    simp only [netN, List.getElem_map, List.getElem_range]
    refine newBg_congr fun x _ => ?_
    unfold lift
    by_cases ex : x = p
    · subst ex; simp
    · have : ¬ (x : Int) = (p : Int) := by omega
      simp [ex, this]
  · rw [if_neg e]
    simp only [netN, List.getElem_map, List.getElem_range]
    refine newBg_congr fun x _ => ?_
    unfold lift
    have : ¬ (i : Int) = (a : Int) := by omega
    simp [this]
theorem ofK_take (K : List Lk) {j : Nat} (h : j < K.length) (i x : Nat) : lift (lift (ofK (K.take j)) (K.getD j Lk.nil).a (K.getD j Lk.nil).p) (K.getD j Lk.nil).b (K.getD j Lk.nil).q i x = ofK (K.take (j + 1)) i x := by
  unfold lift ofK
  rw [once_take K _ _ h]
  have h0 := once_nonneg (K.take j) i x
  generalize onceL (K.take j) i x = o at h0 ⊢
  generalize K.getD j Lk.nil = l
  by_cases c1 : l.a = (i : Int) ∧ l.p = (x : Int)
  · rw [if_pos c1]
    have e1 : ((i : Int) = l.a) := c1.1.symm
    have e2 : ((x : Int) = l.p) := c1.2.symm
    rw [decide_eq_true e1, decide_eq_true e2]
    have : decide (0 < o + (1 + if l.b = (i : Int) ∧ l.q = (x : Int) then 1 else 0)) = true := decide_eq_true (by split <;> omega)
    rw [this]
    simp
  · rw [if_neg c1]
    have e1 : (decide ((i : Int) = l.a) && decide ((x : Int) = l.p)) = false := by
      rw [Bool.and_eq_false_iff]
      simp only [decide_eq_false_iff_not]
      by_cases q : (i : Int) = l.a
      · exact .inr (fun e2 => c1 ⟨q.symm, e2.symm⟩)
      · exact .inl q
    rw [e1, Bool.or_false]
    by_cases c2 : l.b = (i : Int) ∧ l.q = (x : Int)
    · rw [if_pos c2]
      rw [decide_eq_true (show (i : Int) = l.b from c2.1.symm), decide_eq_true (show (x : Int) = l.q from c2.2.symm)]
      rw [decide_eq_true (show 0 < o + (0 + 1) by omega)]
      simp
    · rw [if_neg c2]
      have e2 : (decide ((i : Int) = l.b) && decide ((x : Int) = l.q)) = false := by
        rw [Bool.and_eq_false_iff]
        simp only [decide_eq_false_iff_not]
        by_cases q : (i : Int) = l.b
        · exact .inr (fun e2 => c2 ⟨q.symm, e2.symm⟩)
        · exact .inl q
      rw [e2, Bool.or_false]
      simp
/-- Whether they make a net. -/
def NewP (ids : List Int) (K : List Lk) : Prop := ids.length ≤ 5 ∧ NetP (netN ids (ofK K) ids.length) K

end Go.Proofs.YtemibefbkjpnaaaGreat
namespace Go.Proofs.YtemibefbkjpnaaaGreat
open Go.ChangeShapes Go.WideShapes Go.ChangeAt Go.RowKit
open Go.ChangeMaps (open_string shut_string)
set_option linter.unusedVariables false
set_option maxRecDepth 100000

end Go.Proofs.YtemibefbkjpnaaaGreat
namespace Go.Proofs.YtemibefbkjpnaaaGreat
open Go.ChangeShapes Go.WideShapes Go.ChangeAt Go.RowKit
open Go.ChangeMaps (open_string shut_string)
set_option linter.unusedVariables false
set_option maxRecDepth 100000

/-- The same, its list at the block n. -/
def Bd.to (m : Bd) (n : Nat) : Bd := ⟨m.id, some ⟨n, 0, none⟩, m.L.length, m.L⟩
/-- The list of the copies. -/
def cpyN (Bs : List Bd) (Ns : Nat → Nat) : List Bd := (List.range Bs.length).map (fun j => (Bs.getD j Bd.nil).to (Ns j))
theorem cpyN_len (Bs : List Bd) (Ns : Nat → Nat) : (cpyN Bs Ns).length = Bs.length := by simp [cpyN]
theorem cpyN_get (Bs : List Bd) (Ns : Nat → Nat) {j : Nat} (h : j < Bs.length) : (cpyN Bs Ns).getD j Bd.nil = (Bs.getD j Bd.nil).to (Ns j) := by simp [cpyN, List.getD, h]
theorem cpyN_d (Bs : List Bd) (Ns : Nat → Nat) : (cpyN Bs Ns).map Bd.d = Bs.map Bd.d := by
  refine List.ext_getElem (by simp [cpyN]) fun i h1 h2 => ?_
  have hi : i < Bs.length := by simpa using h2
  simp [cpyN, Bd.d, Bd.to, List.getD, hi]
theorem FFill.congr {X : Type} {enc : X → List Value} {n : Nat} (hn : ∀ x, (enc x).length = n) (h0 : 0 < n) (d : X) {T : TypeId} {base : Nat} {w : World} {g : Nat} {L M : List X} {k : Nat} (h : FFill enc n T base w g L k) (hk : k ≤ L.length) (hl : M.length = L.length) (e : ∀ i, i < k → M.getD i d = L.getD i d) : FFill enc n T base w g M k := by
  obtain ⟨xs, h1, h2⟩ := h
  refine ⟨xs, by rw [hl]; exact h1, fun j hj => ?_⟩
  rw [h2 j hj]
  have hq : j / n < k := Nat.div_lt_of_lt_mul (by rw [Nat.mul_comm]; exact hj)
  have hr : j % n < n := Nat.mod_lt _ h0
  have ej : j = j / n * n + j % n := by rw [Nat.mul_comm]; exact (Nat.div_add_mod j n).symm
  rw [ej, fcells_at hn d L _ _ (by omega) hr, fcells_at hn d M _ _ (by omega) hr, e _ hq]
/-- What a loop that fills the block B with bridges has done behind k rounds; Ns: where their lists lie. -/
structure NF (B : Nat) (Bs : List Bd) (Ns : Nat → Nat) (k : Nat) (w wr : World) : Prop where
  bel : Below B w wr
  fill : FFill bdEnc 2 40 B wr B (cpyN Bs Ns) k
  nest : ∀ j, j < k → FOwn ptEnc 11 75 B wr (.slice (some ⟨Ns j, 0, none⟩) (Bs.getD j Bd.nil).L.length (Bs.getD j Bd.nil).L.length) (Bs.getD j Bd.nil).L
  nb : ∀ j, j < k → B < Ns j ∧ Ns j < wr.heap.size
  inc : ∀ i j, i < j → j < k → Ns i < Ns j
theorem NF.later {B : Nat} {Bs : List Bd} {Ns : Nat → Nat} {k : Nat} {w wr w2 : World} (h : NF B Bs Ns k w wr) (b : Below wr.heap.size wr w2) : NF B Bs Ns k w w2 := by
  have hl := h.fill.lt
  have hs := b.size
  exact ⟨h.bel.trans (b.mono (by omega)), h.fill.keep (b.block _ hl.2), fun j hj => (h.nest j hj).later b, fun j hj => ⟨(h.nb j hj).1, by have := (h.nb j hj).2; omega⟩, h.inc⟩
theorem NF.step {B : Nat} {Bs : List Bd} {Ns : Nat → Nat} {k : Nat} {w wr : World} {N : Nat} (h : NF B Bs Ns k w wr) (hk : k < Bs.length) (hN : B < N ∧ N < wr.heap.size) (hi : ∀ j, j < k → Ns j < N)
    (hv : FOwn ptEnc 11 75 B wr (.slice (some ⟨N, 0, none⟩) (Bs.getD k Bd.nil).L.length (Bs.getD k Bd.nil).L.length) (Bs.getD k Bd.nil).L) :
    NF B Bs (fun j => if j = k then N else Ns j) (k + 1) w ((wr.setCell ⟨B, k * 2, none⟩ (.int .i64 (Bs.getD k Bd.nil).id)).setCell ⟨B, k * 2 + 1, none⟩ (.slice (some ⟨N, 0, none⟩) (Bs.getD k Bd.nil).L.length (Bs.getD k Bd.nil).L.length)) := by
  have hb : ∀ g, g ≠ B → ((wr.setCell ⟨B, k * 2, none⟩ (.int .i64 (Bs.getD k Bd.nil).id)).setCell ⟨B, k * 2 + 1, none⟩ (.slice (some ⟨N, 0, none⟩) (Bs.getD k Bd.nil).L.length (Bs.getD k Bd.nil).L.length)).heap[g]? = wr.heap[g]? := fun g hg => by
    rw [Below.heap_setCell _ _ _ _ hg, Below.heap_setCell _ _ _ _ hg]
  have F : FFill bdEnc 2 40 B wr B (cpyN Bs (fun j => if j = k then N else Ns j)) k := h.fill.congr bdEnc_len (by omega) Bd.nil (by rw [cpyN_len]; omega) (by rw [cpyN_len, cpyN_len]) (fun i hi => by
    rw [cpyN_get _ _ (by omega), cpyN_get _ _ (by omega)]
    have : i ≠ k := by omega
    simp only [this, if_false])
  have F1 := F.step bdEnc_len Bd.nil (by rw [cpyN_len]; exact hk)
  rw [cpyN_get _ _ hk, bdPut] at F1
  simp only [if_true, Bd.to] at F1
  refine ⟨(h.bel.setCell (Nat.le_refl _) _).setCell (Nat.le_refl _) _, F1, fun j hj => ?_, fun j hj => ?_, fun i j hij hj => ?_⟩
  · by_cases e : j = k
    · subst e
      simp only [if_true]
      exact hv.keep (fun g q => hb _ (by have : N = g := by simpa [Value.ownBlock] using q
                                         omega))
    · simp only [e, if_false]
      exact (h.nest j (by omega)).keep (fun g q => hb _ (by have : Ns j = g := by simpa [Value.ownBlock] using q
                                                            have := (h.nb j (by omega)).1
                                                            omega))
  · by_cases e : j = k
    · simp only [e, if_true]; simpa using hN
    · simp only [e, if_false]; simpa using h.nb j (by omega)
  · by_cases e : j = k
    · have : i ≠ k := by omega
      simp only [e, this, if_true, if_false]
      exact hi i (by omega)
    · have : i ≠ k := by omega
      simp only [e, this, if_false]
      exact h.inc i j hij (by omega)
theorem NF.own {B : Nat} {Bs : List Bd} {Ns : Nat → Nat} {w wr : World} (h : NF B Bs Ns Bs.length w wr) : NOwn B wr.heap.size wr (.slice (some ⟨B, 0, none⟩) Bs.length Bs.length) (cpyN Bs Ns) := by
  have hl := cpyN_len Bs Ns
  have F := h.fill
  rw [← hl] at F
  have O := F.done bdEnc_len
  rw [hl] at O
  have hv : ∀ i, i < Bs.length → ((cpyN Bs Ns).getD i Bd.nil).v = .slice (some ⟨Ns i, 0, none⟩) (Bs.getD i Bd.nil).L.length (Bs.getD i Bd.nil).L.length := fun i hi => by rw [cpyN_get _ _ hi]; rfl
  have hb : ∀ i, i < Bs.length → ∀ g, ((cpyN Bs Ns).getD i Bd.nil).v.ownBlock = some g → Ns i = g := fun i hi g e => by
    rw [hv i hi] at e
    simpa [Value.ownBlock] using e
  refine ⟨O, fun i hi => ?_, fun g e => ?_, fun i hi g e => ?_, fun i hi g g' e e' => ?_, fun i j hij hj g g' e e' => ?_⟩
  · rw [hl] at hi
    rw [hv i hi, cpyN_get _ _ hi]
    exact h.nest i hi
  · obtain rfl : B = g := by simpa [Value.ownBlock] using e
    exact h.fill.lt.2
  · rw [hl] at hi
    have := hb i hi g e
    have := (h.nb i hi).2
    omega
  · rw [hl] at hi
    have := hb i hi g' e'
    have := (h.nb i hi).1
    obtain rfl : B = g := by simpa [Value.ownBlock] using e
    omega
  · rw [hl] at hj
    have := hb i (by omega) g e
    have := hb j hj g' e'
    have := h.inc i j hij hj
    omega
theorem nf_made {w w1 : World} {Bs : List Bd} {Ns : Nat → Nat} {xs : List Value} (hown : w1.ownsRow w.heap.size 40 2 (.slice (some ⟨w.heap.size, 0, none⟩) Bs.length Bs.length) Bs.length xs) (hgrow : w.grownBy w1 none) : NF w.heap.size Bs Ns 0 w w1 := by
  refine ⟨(Below.refl _ _).grown hgrow (Nat.le_refl _) (by simp), FFill.start (by rw [cpyN_len]; exact hown), fun j hj => by omega, fun j hj => by omega, fun i j _ hj => by omega⟩
theorem brInfo2 : (Tryz.prog.info? 40).map (fun i => (i.zero, i.size, i.bytes)) = some (some (.agg #[.int .i64 0, .slice none 0 0]), 2, 32) := by kernel_rfl
set_option maxHeartbeats 1000000 in
theorem bdTo (ad : Option Addr) (cap : Nat) (Bs : List Bd) (w : World) (hv : NV w ad Bs) (hl : Bs.length ≤ 1048576) (hls : ∀ i, i < Bs.length → (Bs.getD i Bd.nil).L.length ≤ 1048576) :
    Calls Tryz.prog 79 #[.slice ad Bs.length cap] w fun e w' => ∃ Ns, e = .returned (.slice (some ⟨w.heap.size, 0, none⟩) Bs.length Bs.length) ∧ NF w.heap.size Bs Ns Bs.length w w' := by
  obtain ⟨i0, hi, hz0, hz1, hz2⟩ := info_parts brInfo2
  go_enter Tryz.func79, Tryz.ntmps79
  go_wp2_with (first | (refine wpList_make_full _ rfl _ _ 24 rfl w.heap.size 40 i0 (.agg #[.int .i64 0, .slice none 0 0]) 2 Tryz.underlying24 hi hz0 hz1 .i64 .i64 _ _ Bs.length rfl rfl rfl rfl ?c1 ?c2 ?c3 ?_))
  case c1 => rw [hz2]; omega
  case c2 => unfold maxLen; omega
  case c3 => exact Nat.le_refl _
  intro w1 hown hgrow
  have F0 : NF w.heap.size Bs (fun _ => 0) 0 w w1 := nf_made hown hgrow
  clear hown hgrow
  go_wp2
  go_loopw [4] (fun i wr => ∃ (k : Nat) (Ns : Nat → Nat), k ≤ Bs.length ∧ i = .int .i64 k ∧ NF w.heap.size Bs Ns k w wr) (fun i _ => Bs.length - (intOf i).toNat)
  case atStart => exact ⟨0, _, Nat.zero_le _, rfl, F0⟩
  case round =>
    obtain ⟨k, Ns, hk, rfl, F⟩ := hrel
    clear F0
    by_cases hlt : k < Bs.length
    · obtain ⟨b, off, rfl⟩ := hv.ad_ (by omega)
      have hck := (hv.below F.bel (Nat.le_refl _)).at_ hlt
      have hnk := (hv.below F.bel (Nat.le_refl _)).nest k hlt
      have hlk := hls k hlt
      have hs := F.bel.size
      have hfl := F.fill.lt
      have st := fun (w2 : World) (N : Nat) (G : NF w.heap.size Bs Ns k w w2) (h1 : wr.heap.size ≤ N) (h2 : N < w2.heap.size) => G.step (N := N) hlt ⟨by omega, h2⟩ (fun j hj => by have := (F.nb j hj).2; omega)
      obtain ⟨m, hh⟩ : ∃ m, Bs.getD k Bd.nil = m := ⟨_, rfl⟩
      rw [hh] at hck hnk hlk
      simp only [hh] at st
      obtain ⟨c1, c2⟩ := hck
      clear hv hls hh
      go_wp2_with fail
      go_at_call 112
      refine (brTo m.id m.ad m.cap m.L wr hnk hlk).mono ?_
      rintro e w2 ⟨N, rfl, n1, n2, o2, k2⟩
      have G := F.later k2
      have G1 := st w2 N G n1 n2 (o2.base hs)
      obtain ⟨u0, hu0⟩ := G.fill.cell (k * 2) (by rw [cpyN_len]; omega)
      obtain ⟨u1, hu1⟩ := G.fill.cell (k * 2 + 1) (by rw [cpyN_len]; omega)
      have f0 := G.fill.frozen (k * 2)
      have f1 := G.fill.frozen (k * 2 + 1)
      clear F G st o2 hnk hfl
      go_wp2
      go_roundw
      case rel => exact ⟨k + 1, _, by omega, by go_num, G1⟩
      case measure => simp [intOf]; omega
    · obtain rfl : k = Bs.length := by omega
      go_wp2
      go_ret
      exact ⟨Ns, rfl, F⟩

end Go.Proofs.YtemibefbkjpnaaaGreat
namespace Go.Proofs.YtemibefbkjpnaaaGreat
open Go.ChangeShapes Go.WideShapes Go.ChangeAt Go.RowKit
open Go.ChangeMaps (open_string shut_string)
set_option linter.unusedVariables false
set_option maxRecDepth 100000

set_option maxHeartbeats 2000000 in
theorem lkEqS (ad ad' : Option Addr) (cap cap' : Nat) (L : List Lk) (w : World) (hv : FView lkEnc w ad L) (hv' : FView lkEnc w ad' L) (hl : L.length ≤ 1048576) :
    Calls Tryz.prog 31 #[.slice ad L.length cap, .slice ad' L.length cap'] w fun e w' => e = .returned (.bool true) ∧ Below w.heap.size w w' := by
  have hB := hv.lt lkEnc_len (by omega)
  have hB' := hv'.lt lkEnc_len (by omega)
  go_enter Tryz.func31, Tryz.ntmps31
  go_wp2
  go_loopw [5] (fun i wr => ∃ k : Nat, k ≤ L.length ∧ i = .int .i64 k ∧ Below w.heap.size w wr) (fun i _ => L.length - (intOf i).toNat)
  case atStart => exact ⟨0, Nat.zero_le _, rfl, Below.refl _ _⟩
  case round =>
    obtain ⟨k, hk, rfl, hb⟩ := hrel
    by_cases hlt : k < L.length
    · obtain ⟨b, off, rfl, _⟩ := hv (by omega)
      obtain ⟨b', off', rfl, _⟩ := hv' (by omega)
      obtain ⟨h, hh⟩ : ∃ h, L.getD k Lk.nil = h := ⟨_, rfl⟩
      have hc : ∀ Y, Below w.heap.size w Y → LkAtO Y b (off + k * 4) h := fun Y hY => by rw [← hh]; exact lkAtO_of ((hv.below hY hB).at_ lkEnc_len Lk.nil hlt)
      have hc' : ∀ Y, Below w.heap.size w Y → LkAtO Y b' (off' + k * 4) h := fun Y hY => by rw [← hh]; exact lkAtO_of ((hv'.below hY hB').at_ lkEnc_len Lk.nil hlt)
      clear hh hv hv' hB hB'
      go_wp2_with fail
      refine wp_region_held (S := fun Y => Below w.heap.size w Y) (by kernel_rfl) ?_
      change wpAnyH _ _ _ _ _ _ _ _ (World.drew _)
      have hb0 : Below w.heap.size w wr.drew := hb.drew
      refine takeW 0 17 (.slice (some ⟨b, off, none⟩) L.length cap) rfl rfl (by kernel_rfl) (by kernel_rfl) (by kernel_rfl) (fun _ _ _ h => h) (by kernel_rfl) (by (intro w hSw; go_simp)) (by assumption) ?_
      simp only [List.set_cons_zero, List.set_cons_succ]
      refine takeW 1 18 (.int .i64 k) rfl rfl (by kernel_rfl) (by kernel_rfl) (by kernel_rfl) (fun _ _ _ h => h) (by kernel_rfl) (by (intro w hSw; go_simp)) (by assumption) ?_
      simp only [List.set_cons_zero, List.set_cons_succ]
      refine takeW 2 19 (.pointer (some ⟨b, off + k * 4, none⟩)) rfl rfl (by kernel_rfl) (by kernel_rfl) (by kernel_rfl) (fun _ _ _ h => h) (by kernel_rfl) (by (intro Y hSw; go_simp; try omega)) (by assumption) ?_
      simp only [List.set_cons_zero, List.set_cons_succ]
      refine takeW 3 20 (.agg #[.int .i64 h.a, .int .i64 h.p, .int .i64 h.b, .int .i64 h.q]) rfl rfl (by kernel_rfl) (by kernel_rfl) (by kernel_rfl) (fun _ _ _ h => h) (by kernel_rfl) (by (intro Y hSw; obtain ⟨X0, X1, X2, X3⟩ := hc Y hSw; go_simp)) (by assumption) ?_
      simp only [List.set_cons_zero, List.set_cons_succ]
      refine takeW 4 21 (.slice (some ⟨b', off', none⟩) L.length cap') rfl rfl (by kernel_rfl) (by kernel_rfl) (by kernel_rfl) (fun _ _ _ h => h) (by kernel_rfl) (by (intro w hSw; go_simp)) (by assumption) ?_
      simp only [List.set_cons_zero, List.set_cons_succ]
      refine takeW 5 22 (.int .i64 k) rfl rfl (by kernel_rfl) (by kernel_rfl) (by kernel_rfl) (fun _ _ _ h => h) (by kernel_rfl) (by (intro w hSw; go_simp)) (by assumption) ?_
      simp only [List.set_cons_zero, List.set_cons_succ]
      refine takeW 6 23 (.pointer (some ⟨b', off' + k * 4, none⟩)) rfl rfl (by kernel_rfl) (by kernel_rfl) (by kernel_rfl) (fun _ _ _ h => h) (by kernel_rfl) (by (intro Y hSw; go_simp; try omega)) (by assumption) ?_
      simp only [List.set_cons_zero, List.set_cons_succ]
      refine takeW 7 24 (.agg #[.int .i64 h.a, .int .i64 h.p, .int .i64 h.b, .int .i64 h.q]) rfl rfl (by kernel_rfl) (by kernel_rfl) (by kernel_rfl) (fun _ _ _ h => h) (by kernel_rfl) (by (intro Y hSw; obtain ⟨X0, X1, X2, X3⟩ := hc' Y hSw; go_simp)) (by assumption) ?_
      simp only [List.set_cons_zero, List.set_cons_succ]
      refine wpAnyH_all (rs := [8]) (by kernel_rfl) (by simp) ?_
      intro i hi; obtain rfl : i = 8 := by simpa using hi
      refine wpOp_step rfl (fun K hK => ?_)
      rw [if_pos (by kernel_rfl)]
      go_simp
      go_at_call 74
      refine (eqLk h _).mono ?_
      rintro e y1 ⟨rfl, j1⟩
      have hb1 : Below w.heap.size w y1 := hb0.trans (j1.mono hb0.size)
      refine hK _ _ ⟨hb1, ?_⟩
      clear hK K hi
      refine takeW 9 26 (.bool false) rfl rfl (by kernel_rfl) (by kernel_rfl) (by kernel_rfl) (fun _ _ _ h => h) (by kernel_rfl) (by (intro w hSw; go_simp)) (by assumption) ?_
      simp only [List.set_cons_zero, List.set_cons_succ]
      refine wpAnyH_done (by kernel_rfl) ?_ _
      go_wp2
      go_roundw
      case rel => exact ⟨k + 1, by omega, by go_num, hb1⟩
      case measure => simp [intOf]; omega
    · obtain rfl : k = L.length := by omega
      go_wp2
      go_ret
      exact ⟨rfl, hb⟩

end Go.Proofs.YtemibefbkjpnaaaGreat
