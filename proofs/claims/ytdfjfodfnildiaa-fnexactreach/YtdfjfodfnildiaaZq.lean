/- impl.Own, impl.Hops, walked. Bridges copied. impl.roleAt, walked. impl.Decide, walked. What comes in, behind its interface. impl.ticked, impl.linked, walked. What is said: gatesTurned, walked. What is said: claimsTold, walked. impl.taken: a claim, walked. impl.taken: a tick, walked. impl.taken: a link, walked. impl.InOk, walked. impl.React, walked. impl.BridgeNew, walked. What a new net is, in plain lists. Lists of bridges, copied. Nets, copied. Lists of bridges, compared. Lists of links, compared. Nets, compared. Nets that a call made. Nets that a call owns. slices.Clone of links and impl.raise, walked. What NetNew answers. Lists of bridges, marked. Lists of links, marked. Nets, marked. Contracts of the small functions over bytes that the laws call. Contracts of the small functions over integers that the laws call. Numbers and links that come in. Nets marked; lists of numbers marked and held. -/
import Derived.Test.YtdfjfodfnildiaaRows
import Derived.WalkKit
import Derived.ProofKit
import Derived.OpenShut
import Derived.ShutString
import Derived.ChangeOld
import Derived.Below
import Derived.Deep.QuietTactic
import Derived.BigQuiet
import Derived.WalkSmall
import Derived.Laws.OwnMore
import Derived.WalkSpells
import Derived.WalkLawsBesides
import Derived.Deep.Cut
import Derived.Test.YtdfjfodfnildiaaBr5
import Derived.Test.YtdfjfodfnildiaaVecIn
import Derived.Lib.SliceRun
import Derived.Test.YtdfjfodfnildiaaBr3
import Derived.Test.YtdfjfodfnildiaaFlatApp
import Derived.Test.YtdfjfodfnildiaaTakes
import Derived.Test.YtdfjfodfnildiaaBr1
import Derived.Test.YtdfjfodfnildiaaBridgeMath
import Derived.Maps.AppendAt
import Derived.Test.YtdfjfodfnildiaaNm0
import Derived.Test.YtdfjfodfnildiaaNb0
import Derived.Test.YtdfjfodfnildiaaBr2
import Derived.Test.YtdfjfodfnildiaaNe0
import Derived.Test.YtdfjfodfnildiaaLk2
import Derived.Test.YtdfjfodfnildiaaLk1
import Derived.Test.YtdfjfodfnildiaaNo2
import Derived.Laws.StructEq
import Derived.Test.YtdfjfodfnildiaaNi4
import Derived.Test.YtdfjfodfnildiaaPts3
import Derived.Test.YtdfjfodfnildiaaBase
import Derived.Test.YtdfjfodfnildiaaNets2
import Derived.Deep.Slices
import Derived.Lib.SmallJoins
import Derived.Test.YtdfjfodfnildiaaIv0
namespace Go.Proofs.Ytdfjfodfnildiaa
open Go.ChangeShapes Go.WideShapes Go.ChangeAt Go.RowKit
open Go.ChangeMaps (open_string shut_string)
set_option linter.unusedVariables false
set_option maxRecDepth 100000

/-- A claim's box that may be written. -/
structure VBox (w : World) (q : Nat) (r c b p : Int) : Prop where
  at_ : VecAt w q r c b p
  fr : ∀ i, w.frozen? ⟨q, i, none⟩ = false
theorem VBox.lt {w : World} {q : Nat} {r c b p : Int} (h : VBox w q r c b p) : q < w.heap.size := World.block_lt_of_cell? w _ h.at_.1
theorem VBox.below {w w' : World} {q n : Nat} {r c b p : Int} (h : VBox w q r c b p) (k : Below n w w') (hq : q < n) : VBox w' q r c b p :=
  ⟨h.at_.below k hq, fun i => (World.frozen?_of_block (a := ⟨q, i, none⟩) (k.block q hq)).trans (h.fr i)⟩
end Go.Proofs.Ytdfjfodfnildiaa
namespace Go.Proofs.Ytdfjfodfnildiaa
open Go.ChangeShapes Go.WideShapes Go.ChangeAt Go.RowKit
open Go.ChangeMaps (open_string shut_string)
set_option linter.unusedVariables false
set_option maxRecDepth 100000

set_option maxHeartbeats 1000000 in
theorem copS (id : Int) (ad : Option Addr) (cap : Nat) (L : List Pt) (w : World) (hv : FView ptEnc w ad L) (hl : L.length ≤ 1048576) (hn : ad = none → cap = 0) :
    Calls Try.prog 110 #[.agg #[.int .i64 id, .slice ad L.length cap]] w fun e w' => ∃ ad' cap', e = .returned (.agg #[.int .i64 id, .slice ad' L.length cap']) ∧ FOwn ptEnc 11 68 w.heap.size w' (.slice ad' L.length cap') L ∧ Below w.heap.size w w' := by
  have hB := hv.lt ptEnc_len (by omega)
  obtain ⟨y, hy⟩ : ∃ y, y = (w.alloc (Obj.cells #[.int .i64 id, .slice ad L.length cap] 71)).alloc (Obj.cells #[.int .i64 0, .slice none 0 0] 71) := ⟨_, rfl⟩
  have B0 : Below w.heap.size w y := by rw [hy]; exact ((Below.refl _ _).alloc (Nat.le_refl _) _).alloc (by simp) _
  have A0 : BrAt y w.heap.size id (.slice ad L.length cap) := by rw [hy]; constructor <;> simp [go_sem]
  have A1 : BBox y (w.heap.size + 1) 0 (.slice none 0 0) := by rw [hy]; refine ⟨?_, fun i => ?_⟩; constructor <;> simp [go_sem]; simp [go_sem]
  have S0 := A1.lt
  have hv1 := hv.below B0 hB
  obtain ⟨i1, hj, hy0, hy1, hy2⟩ := info_parts ptInfo
  go_enter Try.func110, Try.ntmps110
  go_wp2
  rw [← hy]
  clear hy
  refine wp_region_held (S := fun Y => Below (w.heap.size + 1) y Y) (by kernel_rfl) ?_
  change wpAnyH _ _ _ _ _ _ _ _ (World.drew _)
  have hb0 : Below y.heap.size y y.drew := (Below.refl _ _).drew
  obtain ⟨u0, hy0'⟩ : ∃ y_, y_ = y.drew := ⟨_, rfl⟩
  rw [← hy0'] at hb0 ⊢
  clear hy0'
  have hc0 : Below (w.heap.size + 1) y u0 := hb0.mono (by omega)
  refine takeW 0 3 (.pointer (some ⟨w.heap.size, 0, none⟩)) rfl rfl (by kernel_rfl) (by kernel_rfl) (by kernel_rfl) (fun _ _ _ h => h) (by kernel_rfl) (by (intro w hSw; go_simp)) (by assumption) ?_
  simp only [List.set_cons_zero, List.set_cons_succ]
  refine takeW 1 4 (.int .i64 id) rfl rfl (by kernel_rfl) (by kernel_rfl) (by kernel_rfl) (fun _ _ _ h => h) (by kernel_rfl) (by (intro Y hSw; obtain ⟨X0, X1⟩ := A0.below hSw (by omega); go_simp)) (by assumption) ?_
  simp only [List.set_cons_zero, List.set_cons_succ]
  refine takeW 3 6 (.pointer (some ⟨w.heap.size, 1, none⟩)) rfl rfl (by kernel_rfl) (by kernel_rfl) (by kernel_rfl) (fun _ _ _ h => h) (by kernel_rfl) (by (intro w hSw; go_simp)) (by assumption) ?_
  simp only [List.set_cons_zero, List.set_cons_succ]
  refine takeW 4 7 (.slice ad L.length cap) rfl rfl (by kernel_rfl) (by kernel_rfl) (by kernel_rfl) (fun _ _ _ h => h) (by kernel_rfl) (by (intro Y hSw; obtain ⟨X0, X1⟩ := A0.below hSw (by omega); go_simp)) (by assumption) ?_
  simp only [List.set_cons_zero, List.set_cons_succ]
  refine wpAnyH_all (rs := [2]) (by kernel_rfl) (by simp) ?_
  intro i hi; obtain rfl : i = 2 := by simpa using hi
  refine wpOp_step rfl (fun K hK => ?_)
  rw [if_pos (by kernel_rfl)]
  go_simp
  obtain ⟨u1, hu1⟩ : ∃ y_, y_ = u0.alloc (Obj.cells #[] 68) := ⟨_, rfl⟩
  have oE : FOwn ptEnc 11 68 u0.heap.size u1 (.slice (some ⟨u0.heap.size, 0, none⟩) 0 0) ([] : List Pt) := by rw [hu1]; exact FOwn.empty u0
  have kq : Below u0.heap.size u0 u1 := by rw [hu1]; exact below_new _
  have z0 := hb0.size
  have hb1 : Below y.heap.size y u1 := hb0.trans (kq.mono hb0.size)
  have hc1 : Below (w.heap.size + 1) y u1 := hb1.mono (by omega)
  have z1 := kq.size
  rw [← hu1]
  clear hu1
  generalize u0.heap.size = E at oE kq z0 z1 ⊢
  refine hK _ _ ⟨hc1, ?_⟩
  clear hK K hi
  refine wpAnyH_all (rs := [5]) (by kernel_rfl) (by simp) ?_
  intro i hi; obtain rfl : i = 5 := by simpa using hi
  refine wpOp_step rfl (fun K hK => ?_)
  rw [if_pos (by kernel_rfl)]
  refine fapp ptEnc_len ptEnc_ones 8 _ _ 69 rfl rfl E 68 i1 (.agg #[.bool false, .bool false, .int .i64 0, .int .i64 0, .int .i64 0, .int .i64 0, .int .i64 0, .int .i64 0, .int .i64 0, .int .i64 0, .bool false]) 80 Try.underlying69 hj hy0 hy1 hy2 rfl (by decide) (by decide) (.slice (some ⟨E, 0, none⟩) 0 0) ([] : List Pt) rfl oE ad cap L rfl hn (hv1.below hb1 (hv1.lt ptEnc_len (by omega))) (by simp; omega) z1 ?_
  intro vN u2 oN gN _
  replace oN : FOwn ptEnc 11 68 E u2 vN L := oN
  have hb2 : Below y.heap.size y u2 := hb1.grown gN hb1.size (fun j e => Nat.le_trans z0 (oE.lt j e).1)
  have hc2 : Below (w.heap.size + 1) y u2 := hb2.mono (by omega)
  obtain ⟨adN, capN, rfl⟩ := oN.open_
  clear gN
  simp only [List.set_cons_zero, List.set_cons_succ]
  refine hK _ _ ⟨hc2, ?_⟩
  clear hK K hi
  refine takeW 6 9 (.agg #[.int .i64 id, .slice adN L.length capN]) rfl rfl (by kernel_rfl) (by kernel_rfl) (by kernel_rfl) (fun _ _ _ h => h) (by kernel_rfl) (by (intro w hSw; go_simp)) (by assumption) ?_
  simp only [List.set_cons_zero, List.set_cons_succ]
  refine wpAnyH_all (rs := [7]) (by kernel_rfl) (by simp) ?_
  intro i hi; obtain rfl : i = 7 := by simpa using hi
  refine wpOp_step rfl (fun K hK => ?_)
  rw [if_pos (by kernel_rfl)]
  have A2 := A1.below hb2 S0
  have A3 := A2
  obtain ⟨⟨t0, t1⟩, tf⟩ := A2
  go_simp
  clear t0 t1 tf
  obtain ⟨uf, hu⟩ : ∃ y_, y_ = (u2.setCell ⟨w.heap.size + 1, 0, none⟩ (.int .i64 id)).setCell ⟨w.heap.size + 1, 1, none⟩ (.slice adN L.length capN) := ⟨_, rfl⟩
  have A4 : BBox uf (w.heap.size + 1) id (.slice adN L.length capN) := by rw [hu]; exact A3.put _ _
  have OF : FOwn ptEnc 11 68 w.heap.size uf (.slice adN L.length capN) L := (oN.base (by omega)).keep fun g e => by
    have := oN.lt g e
    rw [hu, Below.heap_setCell _ _ _ _ (by show g ≠ w.heap.size + 1; omega), Below.heap_setCell _ _ _ _ (by show g ≠ w.heap.size + 1; omega)]
  have BF : Below w.heap.size w uf := by rw [hu]; exact ((B0.trans (hb2.mono B0.size)).setCell (by show _ ≤ w.heap.size + 1; omega) _).setCell (by show _ ≤ w.heap.size + 1; omega) _
  have hbf : Below (w.heap.size + 1) y uf := by rw [hu]; exact (hc2.setCell (Nat.le_refl (w.heap.size + 1)) _).setCell (Nat.le_refl (w.heap.size + 1)) _
  rw [← hu]
  clear hu
  refine hK _ _ ⟨hbf, ?_⟩
  clear hK K hi
  refine wpAnyH_done (by kernel_rfl) ?_ _
  obtain ⟨t0, t1⟩ := A4.at_
  go_wp2
  refine bodyPost_ret (v := .agg #[.int .i64 id, .slice adN L.length capN]) (by simp [results, Try.results110, go_sem, *]) rfl ⟨_, _, rfl, OF, BF⟩


end Go.Proofs.Ytdfjfodfnildiaa
namespace Go.Proofs.Ytdfjfodfnildiaa
open Go.ChangeShapes Go.WideShapes Go.ChangeAt Go.RowKit
open Go.ChangeMaps (open_string shut_string)
set_option linter.unusedVariables false
set_option maxRecDepth 100000

/-- Worlds that are alike below B, but at g. -/
structure Bar (g B : Nat) (a w : World) : Prop where
  size : a.heap.size ≤ w.heap.size
  block : ∀ k, k < B → k ≠ g → w.heap[k]? = a.heap[k]?
theorem Bar.of {g B : Nat} {a w : World} (h : Below B a w) : Bar g B a w := ⟨h.size, fun k hk _ => h.block k hk⟩
theorem Bar.putAll {g B o : Nat} {a w : World} (vs : List Value) (h : Bar g B a w) : Bar g B a (putAll w g o vs) :=
  ⟨by rw [size_putAll]; exact h.size, fun k hk hne => by rw [heap_putAll _ _ _ _ hne]; exact h.block k hk hne⟩
theorem PtAt.bar {g B q : Nat} {a w : World} {x : Pt} (h : PtAt a q x) (k : Bar g B a w) (hq : q < B) (hne : q ≠ g) : PtAt w q x := h.keep (k.block q hq hne)
theorem BrAt.bar {g B q : Nat} {a w : World} {id : Int} {v : Value} (h : BrAt a q id v) (k : Bar g B a w) (hq : q < B) (hne : q ≠ g) : BrAt w q id v := h.keep (k.block q hq hne)
theorem turnR_up (x : Pt) (role : Int) : turnR x role = turnUp x role := by
  unfold turnUp
  cases hu : x.up
  · unfold turnR; rw [hu]; simp
  · simp
theorem FOwn.row {X : Type} {enc : X → List Value} {n : Nat} {T : TypeId} {base : Nat} {w : World} {ad : Option Addr} {len cap : Nat} {L : List X} (h : FOwn enc n T base w (.slice ad len cap) L) (h0 : 0 < L.length) : ∃ g, ad = some ⟨g, 0, none⟩ ∧ base ≤ g ∧ g < w.heap.size := by
  rcases h.2 with ⟨_, q⟩ | ⟨g, c, cur, q, _⟩
  · omega
  · simp only [Value.slice.injEq] at q
    obtain ⟨rfl, rfl, rfl⟩ := q
    have := h.lt g rfl
    exact ⟨g, rfl, this⟩
end Go.Proofs.Ytdfjfodfnildiaa
namespace Go.Proofs.Ytdfjfodfnildiaa
open Go.ChangeShapes Go.WideShapes Go.ChangeAt Go.RowKit
open Go.ChangeMaps (open_string shut_string)
set_option linter.unusedVariables false
set_option maxRecDepth 100000

end Go.Proofs.Ytdfjfodfnildiaa
namespace Go.Proofs.Ytdfjfodfnildiaa
open Go.ChangeShapes Go.WideShapes Go.ChangeAt Go.RowKit
open Go.ChangeMaps (open_string shut_string)
set_option linter.unusedVariables false
set_option maxRecDepth 100000

/-- What comes in: eight cells. -/
structure Ik where
  k : Int
  q : Int
  r : Int
  c : Int
  b : Int
  p : Int
  h : Int
  up : Bool
/-- Its box. -/
structure InAt (w : World) (o : Nat) (x : Ik) : Prop where
  c0 : w.cell? ⟨o, 0, none⟩ = some (.int .i64 x.k)
  c1 : w.cell? ⟨o, 1, none⟩ = some (.int .i64 x.q)
  c2 : w.cell? ⟨o, 2, none⟩ = some (.int .i64 x.r)
  c3 : w.cell? ⟨o, 3, none⟩ = some (.int .i64 x.c)
  c4 : w.cell? ⟨o, 4, none⟩ = some (.int .i64 x.b)
  c5 : w.cell? ⟨o, 5, none⟩ = some (.int .i64 x.p)
  c6 : w.cell? ⟨o, 6, none⟩ = some (.int .i64 x.h)
  c7 : w.cell? ⟨o, 7, none⟩ = some (.bool x.up)
theorem InAt.keep {w w' : World} {o : Nat} {x : Ik} (h : InAt w o x) (k : w'.heap[o]? = w.heap[o]?) : InAt w' o x :=
  ⟨(World.cell?_of_block (a := ⟨o, 0, none⟩) k).trans h.c0, (World.cell?_of_block (a := ⟨o, 1, none⟩) k).trans h.c1, (World.cell?_of_block (a := ⟨o, 2, none⟩) k).trans h.c2, (World.cell?_of_block (a := ⟨o, 3, none⟩) k).trans h.c3, (World.cell?_of_block (a := ⟨o, 4, none⟩) k).trans h.c4, (World.cell?_of_block (a := ⟨o, 5, none⟩) k).trans h.c5, (World.cell?_of_block (a := ⟨o, 6, none⟩) k).trans h.c6, (World.cell?_of_block (a := ⟨o, 7, none⟩) k).trans h.c7⟩
theorem InAt.below {w w' : World} {o n : Nat} {x : Ik} (h : InAt w o x) (k : Below n w w') (ho : o < n) : InAt w' o x := h.keep (k.block o ho)
theorem InAt.lt {w : World} {o : Nat} {x : Ik} (h : InAt w o x) : o < w.heap.size := World.block_lt_of_cell? w _ h.c0
theorem InAt.new (w : World) (t : TypeId) (x : Ik) : InAt (w.alloc (Obj.cells #[.int .i64 x.k, .int .i64 x.q, .int .i64 x.r, .int .i64 x.c, .int .i64 x.b, .int .i64 x.p, .int .i64 x.h, .bool x.up] t)) w.heap.size x := by
  constructor <;> simp [go_sem]
/-- What comes in is right. -/
def inOk (x : Ik) : Bool :=
  if x.k = 1 then decide (0 ≤ x.q ∧ x.q ≤ 3) && (vOk x.r x.c x.b x.p && (decide (0 ≤ x.h ∧ x.h ≤ 8) && !x.up))
  else if x.k = 3 then decide (0 ≤ x.q ∧ x.q ≤ 3) && (decide (x.r = 0 ∧ x.c = 0 ∧ x.b = 0 ∧ x.p = 0) && (x.h == 0))
  else if x.k = 2 then decide (x.q = 0 ∧ x.r = 0 ∧ x.c = 0 ∧ x.b = 0 ∧ x.p = 0 ∧ x.h = 0 ∧ x.up = false)
  else false
end Go.Proofs.Ytdfjfodfnildiaa
namespace Go.Proofs.Ytdfjfodfnildiaa
open Go.ChangeShapes Go.WideShapes Go.ChangeAt Go.RowKit
open Go.ChangeMaps (open_string shut_string)
set_option linter.unusedVariables false
set_option maxRecDepth 100000

/-- A port whose link turned. -/
def linkP (up : Bool) : Pt := if up then ⟨true, false, 0, 0, 0, 0, 0, 0, 3, 0, false⟩ else Pt.nil
theorem link_ok (up : Bool) : pOk (linkP up) = true := by cases up <;> decide
theorem tick_imp {x : Pt} (h : pOk x = true) : tickP x = if ((fadeR x).ro = 1 ∨ (fadeR x).ro = 2) ∧ 0 < (fadeR x).wa then { fadeR x with wa := (fadeR x).wa - 1, op := ((fadeR x).wa - 1 == 0) } else fadeR x := by
  obtain ⟨h1, h2, h3, h4, _⟩ := pOk_parts.1 h
  obtain ⟨k1, k2, k3, k4⟩ := fadeR_keeps x
  unfold tickP tickW
  generalize fadeR x = y at *
  obtain ⟨up, has, r, c, b, p, hh, l, ro, wa, op⟩ := y
  dsimp only at *
  by_cases hc : (ro = 1 ∨ ro = 2) ∧ 0 < wa
  · rw [if_pos hc, if_pos hc]
    congr 1
    unfold raOp
    rw [Bool.eq_iff_iff]
    simp only [decide_eq_true_eq, beq_iff_eq]
    omega
  · rw [if_neg hc, if_neg hc]
    congr 1
    rw [k4, h3, k2, k3]
end Go.Proofs.Ytdfjfodfnildiaa
namespace Go.Proofs.Ytdfjfodfnildiaa
open Go.ChangeShapes Go.WideShapes Go.ChangeAt Go.RowKit
open Go.ChangeMaps (open_string shut_string)
set_option linter.unusedVariables false
set_option maxRecDepth 100000

/-- A what is said: its cells. -/
structure Ou where
  k : Int
  pt : Int
  r : Int
  c : Int
  b : Int
  p : Int
  h : Int
  on : Bool
def Ou.nil : Ou := ⟨0, 0, 0, 0, 0, 0, 0, false⟩
def ouEnc (x : Ou) : List Value := [.int .i64 x.k, .int .i64 x.pt, .int .i64 x.r, .int .i64 x.c, .int .i64 x.b, .int .i64 x.p, .int .i64 x.h, .bool x.on]
theorem ouEnc_len (x : Ou) : (ouEnc x).length = 8 := rfl
theorem ouEnc_ones (L : List Ou) : ∀ u ∈ fcells ouEnc L, u.oneCell' = true := by
  induction L with
  | nil => intro u h; cases h
  | cons x L ih =>
    intro u h
    simp only [fcells, ouEnc, List.mem_append, List.mem_cons, List.not_mem_nil, or_false] at h
    rcases h with (rfl | rfl | rfl | rfl | rfl | rfl | rfl | rfl) | h
    · rfl
    · rfl
    · rfl
    · rfl
    · rfl
    · rfl
    · rfl
    · rfl
    · exact ih u h
/-- What its cells hold, in a world. -/
structure OuAtO (w : World) (b o : Nat) (x : Ou) : Prop where
  c0 : w.cell? ⟨b, o, none⟩ = some (.int .i64 x.k)
  c1 : w.cell? ⟨b, o + 1, none⟩ = some (.int .i64 x.pt)
  c2 : w.cell? ⟨b, o + 2, none⟩ = some (.int .i64 x.r)
  c3 : w.cell? ⟨b, o + 3, none⟩ = some (.int .i64 x.c)
  c4 : w.cell? ⟨b, o + 4, none⟩ = some (.int .i64 x.b)
  c5 : w.cell? ⟨b, o + 5, none⟩ = some (.int .i64 x.p)
  c6 : w.cell? ⟨b, o + 6, none⟩ = some (.int .i64 x.h)
  c7 : w.cell? ⟨b, o + 7, none⟩ = some (.bool x.on)
theorem ouAtO_of {w : World} {b o : Nat} {x : Ou} (h : ∀ j v, (ouEnc x)[j]? = some v → w.cell? ⟨b, o + j, none⟩ = some v) : OuAtO w b o x := ⟨h 0 _ rfl, h 1 _ rfl, h 2 _ rfl, h 3 _ rfl, h 4 _ rfl, h 5 _ rfl, h 6 _ rfl, h 7 _ rfl⟩
theorem ouPut (w : World) (g o : Nat) (x : Ou) : putAll w g o (ouEnc x) = ((((((((w.setCell ⟨g, o, none⟩ (.int .i64 x.k)).setCell ⟨g, o + 1, none⟩ (.int .i64 x.pt)).setCell ⟨g, o + 2, none⟩ (.int .i64 x.r)).setCell ⟨g, o + 3, none⟩ (.int .i64 x.c)).setCell ⟨g, o + 4, none⟩ (.int .i64 x.b)).setCell ⟨g, o + 5, none⟩ (.int .i64 x.p)).setCell ⟨g, o + 6, none⟩ (.int .i64 x.h)).setCell ⟨g, o + 7, none⟩ (.bool x.on)) := rfl
theorem ouInfo : (Try.prog.info? 146).map (fun i => (i.zero, i.size, i.bytes)) = some (some (.agg #[.int .i64 0, .int .i64 0, .int .i64 0, .int .i64 0, .int .i64 0, .int .i64 0, .int .i64 0, .bool false]), 8, 64) := by kernel_rfl
theorem FView.oneO (w : World) (t : TypeId) (x : Ou) : FView ouEnc (w.alloc (Obj.cells #[.int .i64 x.k, .int .i64 x.pt, .int .i64 x.r, .int .i64 x.c, .int .i64 x.b, .int .i64 x.p, .int .i64 x.h, .bool x.on] t)) (some ⟨w.heap.size, 0, none⟩) [x] := by
  intro _
  refine ⟨w.heap.size, 0, rfl, fun j v hv => ?_⟩
  have hj : j < 8 := by
    have := (List.getElem?_eq_some_iff.1 hv).1
    simpa [fcells, ouEnc] using this
  rcases (by omega : j = 0 ∨ j = 1 ∨ j = 2 ∨ j = 3 ∨ j = 4 ∨ j = 5 ∨ j = 6 ∨ j = 7) with rfl | rfl | rfl | rfl | rfl | rfl | rfl | rfl
  · cases hv; simp [go_sem]
  · cases hv; simp [go_sem]
  · cases hv; simp [go_sem]
  · cases hv; simp [go_sem]
  · cases hv; simp [go_sem]
  · cases hv; simp [go_sem]
  · cases hv; simp [go_sem]
  · cases hv; simp [go_sem]
/-- A gate that turned. -/
def gateO (i : Nat) (on : Bool) : Ou := ⟨2, i, 0, 0, 0, 0, 0, on⟩
def gatesTo (L M : List Pt) : Nat → List Ou
  | 0 => []
  | n + 1 => gatesTo L M n ++ if (M.getD n Pt.nil).op = (L.getD n Pt.nil).op then [] else [gateO n (M.getD n Pt.nil).op]
/-- What a bridge claims at its ports. -/
def toldO (id : Int) (M : List Pt) (i : Nat) : Ou := ⟨1, i, (ownR id M i).1, (ownR id M i).2.1, (ownR id M i).2.2.1, (ownR id M i).2.2.2, hopsR id M, false⟩
def toldTo (id : Int) (M : List Pt) : Nat → List Ou
  | 0 => []
  | n + 1 => toldTo id M n ++ if (M.getD n Pt.nil).ro = 2 then [toldO id M n] else []
theorem gates_len (L M : List Pt) (n : Nat) : (gatesTo L M n).length ≤ n := by
  induction n with
  | zero => simp [gatesTo]
  | succ n ih => simp only [gatesTo, List.length_append]; split <;> simp <;> omega
theorem told_len (id : Int) (M : List Pt) (n : Nat) : (toldTo id M n).length ≤ n := by
  induction n with
  | zero => simp [toldTo]
  | succ n ih => simp only [toldTo, List.length_append]; split <;> simp <;> omega
theorem gates_yes {L M : List Pt} {n : Nat} {h g : Pt} (hh : M.getD n Pt.nil = h) (hg : L.getD n Pt.nil = g) (e : h.op = g.op) : gatesTo L M (n + 1) = gatesTo L M n := by
  simp only [gatesTo, hh, hg]; rw [if_pos e, List.append_nil]
theorem gates_no {L M : List Pt} {n : Nat} {h g : Pt} (hh : M.getD n Pt.nil = h) (hg : L.getD n Pt.nil = g) (e : h.op ≠ g.op) : gatesTo L M (n + 1) = gatesTo L M n ++ [gateO n h.op] := by
  simp only [gatesTo, hh, hg]; rw [if_neg e]
theorem told_yes {id : Int} {M : List Pt} {n : Nat} {h : Pt} (hh : M.getD n Pt.nil = h) (e : h.ro = 2) : toldTo id M (n + 1) = toldTo id M n ++ [toldO id M n] := by
  simp only [toldTo, hh]; rw [if_pos e]
theorem told_no {id : Int} {M : List Pt} {n : Nat} {h : Pt} (hh : M.getD n Pt.nil = h) (e : h.ro ≠ 2) : toldTo id M (n + 1) = toldTo id M n := by
  simp only [toldTo, hh]; rw [if_neg e, List.append_nil]
end Go.Proofs.Ytdfjfodfnildiaa
namespace Go.Proofs.Ytdfjfodfnildiaa
open Go.ChangeShapes Go.WideShapes Go.ChangeAt Go.RowKit
open Go.ChangeMaps (open_string shut_string)
set_option linter.unusedVariables false
set_option maxRecDepth 100000

end Go.Proofs.Ytdfjfodfnildiaa
namespace Go.Proofs.Ytdfjfodfnildiaa
open Go.ChangeShapes Go.WideShapes Go.ChangeAt Go.RowKit
open Go.ChangeMaps (open_string shut_string)
set_option linter.unusedVariables false
set_option maxRecDepth 100000

/-- A bridge behind what came in. -/
def afterL (id : Int) (L : List Pt) (x : Ik) : List Pt :=
  if x.k = 1 then decideR id (L.set x.q.toNat (claimR (L.getD x.q.toNat Pt.nil) x.r x.c x.b x.p x.h))
  else if x.k = 2 then decideR id (L.map tickP)
  else if (L.getD x.q.toNat Pt.nil).up = x.up then L else decideR id (L.set x.q.toNat (linkP x.up))
theorem afterL_len (id : Int) (L : List Pt) (x : Ik) : (afterL id L x).length = L.length := by
  unfold afterL
  split
  · rw [decideR_len, List.length_set]
  · split
    · rw [decideR_len, List.length_map]
    · split
      · rfl
      · rw [decideR_len, List.length_set]
end Go.Proofs.Ytdfjfodfnildiaa
namespace Go.Proofs.Ytdfjfodfnildiaa
open Go.ChangeShapes Go.WideShapes Go.ChangeAt Go.RowKit
open Go.ChangeMaps (open_string shut_string)
set_option linter.unusedVariables false
set_option maxRecDepth 100000

end Go.Proofs.Ytdfjfodfnildiaa
namespace Go.Proofs.Ytdfjfodfnildiaa
open Go.ChangeShapes Go.WideShapes Go.ChangeAt Go.RowKit
open Go.ChangeMaps (open_string shut_string)
set_option linter.unusedVariables false
set_option maxRecDepth 100000

end Go.Proofs.Ytdfjfodfnildiaa
namespace Go.Proofs.Ytdfjfodfnildiaa
open Go.ChangeShapes Go.WideShapes Go.ChangeAt Go.RowKit
open Go.ChangeMaps (open_string shut_string)
set_option linter.unusedVariables false
set_option maxRecDepth 100000

end Go.Proofs.Ytdfjfodfnildiaa
namespace Go.Proofs.Ytdfjfodfnildiaa
open Go.ChangeShapes Go.WideShapes Go.ChangeAt Go.RowKit
open Go.ChangeMaps (open_string shut_string)
set_option linter.unusedVariables false
set_option maxRecDepth 100000

theorem join_region {P : Program} {reg : Code} {K : Act → World → Prop} {Q : Exit → Act → World → Prop} {l : List Value} {ds : List Deferred} {W : World} (R : List Value → List Value → World → Prop) (h1 : ∀ l' W', R l l' W' → K ⟨l'.toArray, ds⟩ W') (h2 : ∀ K2 : Act → World → Prop, Hid (∀ l' W', R l l' W' → K2 ⟨l'.toArray, ds⟩ W') → Code.wp P reg (Exit.then K2 Q) ⟨l.toArray, ds⟩ W) : Code.wp P reg (Exit.then K Q) ⟨l.toArray, ds⟩ W := h2 K h1
/-- Whether what comes in is taken. -/
def goes (id : Int) (L : List Pt) (x : Ik) : Bool := bOk id L && (inOk x && decide (0 ≤ x.q ∧ x.q < (L.length : Int)))
def reactL (id : Int) (L : List Pt) (x : Ik) : List Pt := if goes id L x then afterL id L x else L
def reactO (id : Int) (L : List Pt) (x : Ik) : List Ou := if goes id L x then gatesTo L (afterL id L x) L.length ++ (if x.k = 2 then toldTo id (afterL id L x) L.length else []) else []
theorem reactL_len (id : Int) (L : List Pt) (x : Ik) : (reactL id L x).length = L.length := by
  unfold reactL
  split
  · exact afterL_len id L x
  · rfl
theorem inOk_q {x : Ik} (h : inOk x = true) : 0 ≤ x.q ∧ x.q ≤ 3 := by
  unfold inOk at h
  split at h
  · simp only [Bool.and_eq_true, decide_eq_true_eq] at h; exact h.1
  · split at h
    · simp only [Bool.and_eq_true, decide_eq_true_eq] at h; exact h.1
    · split at h
      · simp only [decide_eq_true_eq] at h; omega
      · cases h
theorem inOk_k {x : Ik} (h : inOk x = true) : x.k = 1 ∨ x.k = 2 ∨ x.k = 3 := by
  unfold inOk at h
  split at h
  · exact .inl (by assumption)
  · split at h
    · exact .inr (.inr (by assumption))
    · split at h
      · exact .inr (.inl (by assumption))
      · cases h
end Go.Proofs.Ytdfjfodfnildiaa
namespace Go.Proofs.Ytdfjfodfnildiaa
open Go.ChangeShapes Go.WideShapes Go.ChangeAt Go.RowKit
open Go.ChangeMaps (open_string shut_string)
set_option linter.unusedVariables false
set_option maxRecDepth 100000

/-- Whether a new bridge is right. -/
def nOk (id n : Int) : Bool := decide (1 ≤ id ∧ id ≤ 9) && decide (1 ≤ n ∧ n ≤ 4)
theorem bOk_new {id : Int} {k : Nat} : bOk id (List.replicate k Pt.nil) = nOk id k := by
  unfold bOk nOk
  have e : (List.replicate k Pt.nil).all pOk = true := by
    rw [List.all_eq_true]; intro x hx; rw [List.eq_of_mem_replicate hx]; exact pOk_nil
  rw [e, List.length_replicate, Bool.and_true]
  congr 1
  exact decide_eq_decide.2 (by omega)
/-- What BridgeNew answers: its number, its ports. -/
def newI (id n : Int) : Int := if nOk id n then id else 0
def newL (id n : Int) : List Pt := if nOk id n then List.replicate n.toNat Pt.nil else []
theorem made_nil {n : Nat} (h : n ≤ 4) : (madeCells (Value.cells (.agg #[.bool false, .bool false, .int .i64 0, .int .i64 0, .int .i64 0, .int .i64 0, .int .i64 0, .int .i64 0, .int .i64 0, .int .i64 0, .bool false])) (n * 11)).toList = fcells ptEnc (List.replicate n Pt.nil) := by
  rcases (by omega : n = 0 ∨ n = 1 ∨ n = 2 ∨ n = 3 ∨ n = 4) with rfl | rfl | rfl | rfl | rfl
  · simp only [madeCells, Array.toList_map, Array.toList_range]; rfl
  · simp only [madeCells, Array.toList_map, Array.toList_range]; rfl
  · simp only [madeCells, Array.toList_map, Array.toList_range]; rfl
  · simp only [madeCells, Array.toList_map, Array.toList_range]; rfl
  · simp only [madeCells, Array.toList_map, Array.toList_range]; rfl
theorem FView.one (w : World) (t : TypeId) (x : Pt) : FView ptEnc (w.alloc (Obj.cells #[.bool x.up, .bool x.has, .int .i64 x.r, .int .i64 x.c, .int .i64 x.b, .int .i64 x.p, .int .i64 x.h, .int .i64 x.l, .int .i64 x.ro, .int .i64 x.wa, .bool x.op] t)) (some ⟨w.heap.size, 0, none⟩) [x] := by
  intro _
  refine ⟨w.heap.size, 0, rfl, fun j v hv => ?_⟩
  have hj : j < 11 := by
    have := (List.getElem?_eq_some_iff.1 hv).1
    simpa [fcells, ptEnc] using this
  rcases (by omega : j = 0 ∨ j = 1 ∨ j = 2 ∨ j = 3 ∨ j = 4 ∨ j = 5 ∨ j = 6 ∨ j = 7 ∨ j = 8 ∨ j = 9 ∨ j = 10) with rfl | rfl | rfl | rfl | rfl | rfl | rfl | rfl | rfl | rfl | rfl
  · cases hv; simp [go_sem]
  · cases hv; simp [go_sem]
  · cases hv; simp [go_sem]
  · cases hv; simp [go_sem]
  · cases hv; simp [go_sem]
  · cases hv; simp [go_sem]
  · cases hv; simp [go_sem]
  · cases hv; simp [go_sem]
  · cases hv; simp [go_sem]
  · cases hv; simp [go_sem]
  · cases hv; simp [go_sem]
theorem minS (a b : Int) (w : World) : Calls Try.prog 106 #[.int .i64 a, .int .i64 b] w fun e w' => e = .returned (.int .i64 (if a < b then a else b)) ∧ w' = w := by
  by_cases h : a < b
  · rw [if_pos h]
    have d : decide (a < b) = true := decide_eq_true h
    clear h
    go_enter Try.func106, Try.ntmps106
    go_wp2
    go_ret
    exact ⟨rfl, rfl⟩
  · rw [if_neg h]
    have d : decide (a < b) = false := decide_eq_false h
    clear h
    go_enter Try.func106, Try.ntmps106
    go_wp2
    go_ret
    exact ⟨rfl, rfl⟩
end Go.Proofs.Ytdfjfodfnildiaa
namespace Go.Proofs.Ytdfjfodfnildiaa
open Go.ChangeShapes Go.WideShapes Go.ChangeAt Go.RowKit
open Go.ChangeMaps (open_string shut_string)
set_option linter.unusedVariables false
set_option maxRecDepth 100000

/-- A port that came up. -/
def upPt : Pt := ⟨true, false, 0, 0, 0, 0, 0, 0, 2, 4, false⟩
def linkIk (q : Int) : Ik := ⟨3, q, 0, 0, 0, 0, 0, true⟩
/-- Four ports, of which those of S are up. -/
def mkS (S : Nat → Bool) : List Pt := [if S 0 then upPt else Pt.nil, if S 1 then upPt else Pt.nil, if S 2 then upPt else Pt.nil, if S 3 then upPt else Pt.nil]
def mkB (b0 b1 b2 b3 : Bool) : List Pt := [if b0 then upPt else Pt.nil, if b1 then upPt else Pt.nil, if b2 then upPt else Pt.nil, if b3 then upPt else Pt.nil]
def lsEq : List Pt → List Pt → Bool
  | [], [] => true
  | x :: L, y :: M => ptEq x y && lsEq L M
  | _, _ => false
theorem lsEq_eq : ∀ {L M : List Pt}, lsEq L M = true → L = M
  | [], [], _ => rfl
  | x :: L, y :: M, h => by
    simp only [lsEq, Bool.and_eq_true] at h
    have hx : x = y := by
      have q := h.1
      obtain ⟨a0, a1, a2, a3, a4, a5, a6, a7, a8, a9, a10⟩ := x
      obtain ⟨b0, b1, b2, b3, b4, b5, b6, b7, b8, b9, b10⟩ := y
      simpa [ptEq] using q
    rw [hx, lsEq_eq h.2]
  | [], _ :: _, h => by simp [lsEq] at h
  | _ :: _, [], h => by simp [lsEq] at h
def bls : List Bool := [false, true]
def raiseChk : Bool := (List.range 9).all fun i => bls.all fun b0 => bls.all fun b1 => bls.all fun b2 => bls.all fun b3 =>
  lsEq (reactL (((i + 1 : Nat)) : Int) (mkB b0 b1 b2 b3) (linkIk 0)) (mkB true b1 b2 b3) && lsEq (reactL (((i + 1 : Nat)) : Int) (mkB b0 b1 b2 b3) (linkIk 1)) (mkB b0 true b2 b3) && lsEq (reactL (((i + 1 : Nat)) : Int) (mkB b0 b1 b2 b3) (linkIk 2)) (mkB b0 b1 true b3) && lsEq (reactL (((i + 1 : Nat)) : Int) (mkB b0 b1 b2 b3) (linkIk 3)) (mkB b0 b1 b2 true)
set_option maxRecDepth 100000 in
theorem raise_chk : raiseChk = true := by kernel_rfl
theorem raise_all {id : Int} (h : 1 ≤ id ∧ id ≤ 9) (b0 b1 b2 b3 : Bool) : reactL id (mkB b0 b1 b2 b3) (linkIk 0) = mkB true b1 b2 b3 ∧ reactL id (mkB b0 b1 b2 b3) (linkIk 1) = mkB b0 true b2 b3 ∧ reactL id (mkB b0 b1 b2 b3) (linkIk 2) = mkB b0 b1 true b3 ∧ reactL id (mkB b0 b1 b2 b3) (linkIk 3) = mkB b0 b1 b2 true := by
  have hc := raise_chk
  unfold raiseChk at hc
  have hb : ∀ b : Bool, b ∈ bls := fun b => by cases b <;> simp [bls]
  have := List.all_eq_true.1 hc (id.toNat - 1) (List.mem_range.2 (by omega))
  have := List.all_eq_true.1 this b0 (hb b0)
  have := List.all_eq_true.1 this b1 (hb b1)
  have := List.all_eq_true.1 this b2 (hb b2)
  have := List.all_eq_true.1 this b3 (hb b3)
  rw [show (((id.toNat - 1 + 1 : Nat)) : Int) = id by omega] at this
  simp only [Bool.and_eq_true] at this
  obtain ⟨⟨⟨t0, t1⟩, t2⟩, t3⟩ := this
  exact ⟨lsEq_eq t0, lsEq_eq t1, lsEq_eq t2, lsEq_eq t3⟩
theorem raise_S {id : Int} (h : 1 ≤ id ∧ id ≤ 9) (S : Nat → Bool) {p : Nat} (hp : p < 4) : reactL id (mkS S) (linkIk (p : Int)) = mkS (fun x => S x || x == p) := by
  have r := raise_all h (S 0) (S 1) (S 2) (S 3)
  have e : ∀ T : Nat → Bool, mkS T = mkB (T 0) (T 1) (T 2) (T 3) := fun T => rfl
  rw [e, e]
  rcases (by omega : p = 0 ∨ p = 1 ∨ p = 2 ∨ p = 3) with rfl | rfl | rfl | rfl
  · simpa using r.1
  · simpa using r.2.1
  · simpa using r.2.2.1
  · simpa using r.2.2.2
theorem mkS_len (S : Nat → Bool) : (mkS S).length = 4 := rfl
theorem mkS_congr {S T : Nat → Bool} (h : ∀ x, x < 4 → S x = T x) : mkS S = mkS T := by
  unfold mkS
  rw [h 0 (by omega), h 1 (by omega), h 2 (by omega), h 3 (by omega)]
theorem mkS_none : mkS (fun _ => false) = List.replicate 4 Pt.nil := rfl
/-- A bridge of a new net. -/
def newBg (id : Int) (S : Nat → Bool) : Bg := if nOk id 4 then ⟨id, mkS S⟩ else ⟨0, []⟩
theorem newBg_0 (id : Int) : newBg id (fun _ => false) = ⟨newI id 4, newL id 4⟩ := by
  unfold newBg newI newL
  by_cases h : nOk id 4 = true
  · rw [if_pos h, if_pos h, if_pos h]; rfl
  · rw [if_neg h, if_neg h, if_neg h]
theorem newBg_congr {id : Int} {S T : Nat → Bool} (h : ∀ x, x < 4 → S x = T x) : newBg id S = newBg id T := by
  unfold newBg
  rw [mkS_congr h]
theorem nOk_4 {id : Int} (h : nOk id 4 = true) : 1 ≤ id ∧ id ≤ 9 := by
  unfold nOk at h
  simp only [Bool.and_eq_true, decide_eq_true_eq] at h
  exact h.1
theorem newBg_len (id : Int) (S : Nat → Bool) : (newBg id S).L.length ≤ 4 := by
  unfold newBg
  split
  · exact Nat.le_refl _
  · exact Nat.zero_le _
theorem newBg_raise (id : Int) (S : Nat → Bool) {p : Nat} (hp : p < (newBg id S).L.length) : (⟨(newBg id S).id, reactL (newBg id S).id (newBg id S).L (linkIk (p : Int))⟩ : Bg) = newBg id (fun x => S x || x == p) := by
  unfold newBg at hp ⊢
  by_cases h : nOk id 4 = true
  · rw [if_pos h] at hp ⊢
    rw [if_pos h]
    dsimp only
    rw [raise_S (nOk_4 h) S hp]
  · rw [if_neg h] at hp
    simp at hp
/-- The first n bridges of a new net. -/
def netN (ids : List Int) (T : Nat → Nat → Bool) (n : Nat) : List Bg := (List.range n).map fun i => newBg (ids.getD i 0) (T i)
theorem netN_len (ids : List Int) (T : Nat → Nat → Bool) (n : Nat) : (netN ids T n).length = n := by simp [netN]
theorem netN_get (ids : List Int) (T : Nat → Nat → Bool) {n i : Nat} (h : i < n) : (netN ids T n).getD i Bg.nil = newBg (ids.getD i 0) (T i) := by simp [netN, List.getD, h]
theorem netN_succ (ids : List Int) (T : Nat → Nat → Bool) (n : Nat) : netN ids T (n + 1) = netN ids T n ++ [newBg (ids.getD n 0) (T n)] := by simp [netN, List.range_succ]
theorem netN_congr {ids : List Int} {T U : Nat → Nat → Bool} {n : Nat} (h : ∀ i x, i < n → x < 4 → T i x = U i x) : netN ids T n = netN ids U n := by
  unfold netN
  refine List.map_congr_left fun i hi => newBg_congr fun x hx => h i x (List.mem_range.1 hi) hx
/-- Ports that some link names. -/
def ofK (K : List Lk) (i x : Nat) : Bool := decide (0 < onceL K i x)
/-- A port that comes up, if there is one. -/
def lift (T : Nat → Nat → Bool) (a p : Int) : Nat → Nat → Bool := fun i x => T i x || (decide ((i : Int) = a) && decide ((x : Int) = p))
theorem lift_no {ids : List Int} {T : Nat → Nat → Bool} {n : Nat} {a p : Int} (h : ¬ PortP (netN ids T n) a p) : netN ids (lift T a p) n = netN ids T n := by
  unfold netN
  refine List.map_congr_left fun i hi => ?_
  have hi := List.mem_range.1 hi
  by_cases q : nOk (ids.getD i 0) 4 = true
  · refine newBg_congr fun x hx => ?_
    unfold lift
    by_cases e : (i : Int) = a ∧ (x : Int) = p
    · exfalso
      refine h ⟨⟨by omega, by rw [netN_len]; omega⟩, by omega, ?_⟩
      rw [show a.toNat = i by omega, netN_get _ _ hi]
      unfold newBg
      rw [if_pos q]
      show p < ((mkS (T i)).length : Int)
      rw [mkS_len]
      omega
    · have : (decide ((i : Int) = a) && decide ((x : Int) = p)) = false := by
        rw [Bool.and_eq_false_iff]
        simp only [decide_eq_false_iff_not]
        by_cases e1 : (i : Int) = a
        · exact .inr (fun e2 => e ⟨e1, e2⟩)
        · exact .inl e1
      rw [this, Bool.or_false]
  · unfold newBg
    rw [if_neg q, if_neg q]
theorem lift_yes {ids : List Int} {T : Nat → Nat → Bool} {n : Nat} {a p : Nat} (ha : a < n) (hp : p < ((netN ids T n).getD a Bg.nil).L.length) : (netN ids T n).set a ⟨((netN ids T n).getD a Bg.nil).id, reactL ((netN ids T n).getD a Bg.nil).id ((netN ids T n).getD a Bg.nil).L (linkIk (p : Int))⟩ = netN ids (lift T a p) n := by
  rw [netN_get _ _ ha] at hp ⊢
  rw [newBg_raise _ _ hp]
  refine List.ext_getElem (by simp [netN]) fun i h1 h2 => ?_
  have hi : i < n := by simpa [netN] using h2
  rw [List.getElem_set]
  by_cases e : a = i
  · subst e
    rw [if_pos rfl]
    simp only [netN, List.getElem_map, List.getElem_range]
    refine newBg_congr fun x _ => ?_
    unfold lift
    by_cases ex : x = p
    · subst ex; simp
    · have : ¬ (x : Int) = (p : Int) := by omega
      simp [ex, this]
  · rw [if_neg e]
    simp only [netN, List.getElem_map, List.getElem_range]
    refine newBg_congr fun x _ => ?_
    unfold lift
    have : ¬ (i : Int) = (a : Int) := by omega
    simp [this]
theorem ofK_take (K : List Lk) {j : Nat} (h : j < K.length) (i x : Nat) : lift (lift (ofK (K.take j)) (K.getD j Lk.nil).a (K.getD j Lk.nil).p) (K.getD j Lk.nil).b (K.getD j Lk.nil).q i x = ofK (K.take (j + 1)) i x := by
  unfold lift ofK
  rw [once_take K _ _ h]
  have h0 := once_nonneg (K.take j) i x
  generalize onceL (K.take j) i x = o at h0 ⊢
  generalize K.getD j Lk.nil = l
  by_cases c1 : l.a = (i : Int) ∧ l.p = (x : Int)
  · rw [if_pos c1]
    have e1 : ((i : Int) = l.a) := c1.1.symm
    have e2 : ((x : Int) = l.p) := c1.2.symm
    rw [decide_eq_true e1, decide_eq_true e2]
    have : decide (0 < o + (1 + if l.b = (i : Int) ∧ l.q = (x : Int) then 1 else 0)) = true := decide_eq_true (by split <;> omega)
    rw [this]
    simp
  · rw [if_neg c1]
    have e1 : (decide ((i : Int) = l.a) && decide ((x : Int) = l.p)) = false := by
      rw [Bool.and_eq_false_iff]
      simp only [decide_eq_false_iff_not]
      by_cases q : (i : Int) = l.a
      · exact .inr (fun e2 => c1 ⟨q.symm, e2.symm⟩)
      · exact .inl q
    rw [e1, Bool.or_false]
    by_cases c2 : l.b = (i : Int) ∧ l.q = (x : Int)
    · rw [if_pos c2]
      rw [decide_eq_true (show (i : Int) = l.b from c2.1.symm), decide_eq_true (show (x : Int) = l.q from c2.2.symm)]
      rw [decide_eq_true (show 0 < o + (0 + 1) by omega)]
      simp
    · rw [if_neg c2]
      have e2 : (decide ((i : Int) = l.b) && decide ((x : Int) = l.q)) = false := by
        rw [Bool.and_eq_false_iff]
        simp only [decide_eq_false_iff_not]
        by_cases q : (i : Int) = l.b
        · exact .inr (fun e2 => c2 ⟨q.symm, e2.symm⟩)
        · exact .inl q
      rw [e2, Bool.or_false]
      simp
/-- Whether they make a net. -/
def NewP (ids : List Int) (K : List Lk) : Prop := ids.length ≤ 5 ∧ NetP (netN ids (ofK K) ids.length) K

end Go.Proofs.Ytdfjfodfnildiaa
namespace Go.Proofs.Ytdfjfodfnildiaa
open Go.ChangeShapes Go.WideShapes Go.ChangeAt Go.RowKit
open Go.ChangeMaps (open_string shut_string)
set_option linter.unusedVariables false
set_option maxRecDepth 100000

/-- The same, its list at the block n. -/
def Bd.to (m : Bd) (n : Nat) : Bd := ⟨m.id, some ⟨n, 0, none⟩, m.L.length, m.L⟩
/-- The list of the copies. -/
def cpyN (Bs : List Bd) (Ns : Nat → Nat) : List Bd := (List.range Bs.length).map (fun j => (Bs.getD j Bd.nil).to (Ns j))
theorem cpyN_len (Bs : List Bd) (Ns : Nat → Nat) : (cpyN Bs Ns).length = Bs.length := by simp [cpyN]
theorem cpyN_get (Bs : List Bd) (Ns : Nat → Nat) {j : Nat} (h : j < Bs.length) : (cpyN Bs Ns).getD j Bd.nil = (Bs.getD j Bd.nil).to (Ns j) := by simp [cpyN, List.getD, h]
theorem cpyN_d (Bs : List Bd) (Ns : Nat → Nat) : (cpyN Bs Ns).map Bd.d = Bs.map Bd.d := by
  refine List.ext_getElem (by simp [cpyN]) fun i h1 h2 => ?_
  have hi : i < Bs.length := by simpa using h2
  simp [cpyN, Bd.d, Bd.to, List.getD, hi]
theorem FFill.congr {X : Type} {enc : X → List Value} {n : Nat} (hn : ∀ x, (enc x).length = n) (h0 : 0 < n) (d : X) {T : TypeId} {base : Nat} {w : World} {g : Nat} {L M : List X} {k : Nat} (h : FFill enc n T base w g L k) (hk : k ≤ L.length) (hl : M.length = L.length) (e : ∀ i, i < k → M.getD i d = L.getD i d) : FFill enc n T base w g M k := by
  obtain ⟨xs, h1, h2⟩ := h
  refine ⟨xs, by rw [hl]; exact h1, fun j hj => ?_⟩
  rw [h2 j hj]
  have hq : j / n < k := Nat.div_lt_of_lt_mul (by rw [Nat.mul_comm]; exact hj)
  have hr : j % n < n := Nat.mod_lt _ h0
  have ej : j = j / n * n + j % n := by rw [Nat.mul_comm]; exact (Nat.div_add_mod j n).symm
  rw [ej, fcells_at hn d L _ _ (by omega) hr, fcells_at hn d M _ _ (by omega) hr, e _ hq]
/-- What a loop that fills the block B with bridges has done behind k rounds; Ns: where their lists lie. -/
structure NF (B : Nat) (Bs : List Bd) (Ns : Nat → Nat) (k : Nat) (w wr : World) : Prop where
  bel : Below B w wr
  fill : FFill bdEnc 2 71 B wr B (cpyN Bs Ns) k
  nest : ∀ j, j < k → FOwn ptEnc 11 68 B wr (.slice (some ⟨Ns j, 0, none⟩) (Bs.getD j Bd.nil).L.length (Bs.getD j Bd.nil).L.length) (Bs.getD j Bd.nil).L
  nb : ∀ j, j < k → B < Ns j ∧ Ns j < wr.heap.size
  inc : ∀ i j, i < j → j < k → Ns i < Ns j
theorem NF.later {B : Nat} {Bs : List Bd} {Ns : Nat → Nat} {k : Nat} {w wr w2 : World} (h : NF B Bs Ns k w wr) (b : Below wr.heap.size wr w2) : NF B Bs Ns k w w2 := by
  have hl := h.fill.lt
  have hs := b.size
  exact ⟨h.bel.trans (b.mono (by omega)), h.fill.keep (b.block _ hl.2), fun j hj => (h.nest j hj).later b, fun j hj => ⟨(h.nb j hj).1, by have := (h.nb j hj).2; omega⟩, h.inc⟩
theorem NF.step {B : Nat} {Bs : List Bd} {Ns : Nat → Nat} {k : Nat} {w wr : World} {N : Nat} (h : NF B Bs Ns k w wr) (hk : k < Bs.length) (hN : B < N ∧ N < wr.heap.size) (hi : ∀ j, j < k → Ns j < N)
    (hv : FOwn ptEnc 11 68 B wr (.slice (some ⟨N, 0, none⟩) (Bs.getD k Bd.nil).L.length (Bs.getD k Bd.nil).L.length) (Bs.getD k Bd.nil).L) :
    NF B Bs (fun j => if j = k then N else Ns j) (k + 1) w ((wr.setCell ⟨B, k * 2, none⟩ (.int .i64 (Bs.getD k Bd.nil).id)).setCell ⟨B, k * 2 + 1, none⟩ (.slice (some ⟨N, 0, none⟩) (Bs.getD k Bd.nil).L.length (Bs.getD k Bd.nil).L.length)) := by
  have hb : ∀ g, g ≠ B → ((wr.setCell ⟨B, k * 2, none⟩ (.int .i64 (Bs.getD k Bd.nil).id)).setCell ⟨B, k * 2 + 1, none⟩ (.slice (some ⟨N, 0, none⟩) (Bs.getD k Bd.nil).L.length (Bs.getD k Bd.nil).L.length)).heap[g]? = wr.heap[g]? := fun g hg => by
    rw [Below.heap_setCell _ _ _ _ hg, Below.heap_setCell _ _ _ _ hg]
  have F : FFill bdEnc 2 71 B wr B (cpyN Bs (fun j => if j = k then N else Ns j)) k := h.fill.congr bdEnc_len (by omega) Bd.nil (by rw [cpyN_len]; omega) (by rw [cpyN_len, cpyN_len]) (fun i hi => by
    rw [cpyN_get _ _ (by omega), cpyN_get _ _ (by omega)]
    have : i ≠ k := by omega
    simp only [this, if_false])
  have F1 := F.step bdEnc_len Bd.nil (by rw [cpyN_len]; exact hk)
  rw [cpyN_get _ _ hk, bdPut] at F1
  simp only [if_true, Bd.to] at F1
  refine ⟨(h.bel.setCell (Nat.le_refl _) _).setCell (Nat.le_refl _) _, F1, fun j hj => ?_, fun j hj => ?_, fun i j hij hj => ?_⟩
  · by_cases e : j = k
    · subst e
      simp only [if_true]
      exact hv.keep (fun g q => hb _ (by have : N = g := by simpa [Value.ownBlock] using q
                                         omega))
    · simp only [e, if_false]
      exact (h.nest j (by omega)).keep (fun g q => hb _ (by have : Ns j = g := by simpa [Value.ownBlock] using q
                                                            have := (h.nb j (by omega)).1
                                                            omega))
  · by_cases e : j = k
    · simp only [e, if_true]; simpa using hN
    · simp only [e, if_false]; simpa using h.nb j (by omega)
  · by_cases e : j = k
    · have : i ≠ k := by omega
      simp only [e, this, if_true, if_false]
      exact hi i (by omega)
    · have : i ≠ k := by omega
      simp only [e, this, if_false]
      exact h.inc i j hij (by omega)
theorem NF.own {B : Nat} {Bs : List Bd} {Ns : Nat → Nat} {w wr : World} (h : NF B Bs Ns Bs.length w wr) : NOwn B wr.heap.size wr (.slice (some ⟨B, 0, none⟩) Bs.length Bs.length) (cpyN Bs Ns) := by
  have hl := cpyN_len Bs Ns
  have F := h.fill
  rw [← hl] at F
  have O := F.done bdEnc_len
  rw [hl] at O
  have hv : ∀ i, i < Bs.length → ((cpyN Bs Ns).getD i Bd.nil).v = .slice (some ⟨Ns i, 0, none⟩) (Bs.getD i Bd.nil).L.length (Bs.getD i Bd.nil).L.length := fun i hi => by rw [cpyN_get _ _ hi]; rfl
  have hb : ∀ i, i < Bs.length → ∀ g, ((cpyN Bs Ns).getD i Bd.nil).v.ownBlock = some g → Ns i = g := fun i hi g e => by
    rw [hv i hi] at e
    simpa [Value.ownBlock] using e
  refine ⟨O, fun i hi => ?_, fun g e => ?_, fun i hi g e => ?_, fun i hi g g' e e' => ?_, fun i j hij hj g g' e e' => ?_⟩
  · rw [hl] at hi
    rw [hv i hi, cpyN_get _ _ hi]
    exact h.nest i hi
  · obtain rfl : B = g := by simpa [Value.ownBlock] using e
    exact h.fill.lt.2
  · rw [hl] at hi
    have := hb i hi g e
    have := (h.nb i hi).2
    omega
  · rw [hl] at hi
    have := hb i hi g' e'
    have := (h.nb i hi).1
    obtain rfl : B = g := by simpa [Value.ownBlock] using e
    omega
  · rw [hl] at hj
    have := hb i (by omega) g e
    have := hb j hj g' e'
    have := h.inc i j hij hj
    omega
theorem nf_made {w w1 : World} {Bs : List Bd} {Ns : Nat → Nat} {xs : List Value} (hown : w1.ownsRow w.heap.size 71 2 (.slice (some ⟨w.heap.size, 0, none⟩) Bs.length Bs.length) Bs.length xs) (hgrow : w.grownBy w1 none) : NF w.heap.size Bs Ns 0 w w1 := by
  refine ⟨(Below.refl _ _).grown hgrow (Nat.le_refl _) (by simp), FFill.start (by rw [cpyN_len]; exact hown), fun j hj => by omega, fun j hj => by omega, fun i j _ hj => by omega⟩
theorem brInfo2 : (Try.prog.info? 71).map (fun i => (i.zero, i.size, i.bytes)) = some (some (.agg #[.int .i64 0, .slice none 0 0]), 2, 32) := by kernel_rfl
set_option maxHeartbeats 1000000 in
theorem bdTo (ad : Option Addr) (cap : Nat) (Bs : List Bd) (w : World) (hv : NV w ad Bs) (hl : Bs.length ≤ 1048576) (hls : ∀ i, i < Bs.length → (Bs.getD i Bd.nil).L.length ≤ 1048576) :
    Calls Try.prog 56 #[.slice ad Bs.length cap] w fun e w' => ∃ Ns, e = .returned (.slice (some ⟨w.heap.size, 0, none⟩) Bs.length Bs.length) ∧ NF w.heap.size Bs Ns Bs.length w w' := by
  obtain ⟨i0, hi, hz0, hz1, hz2⟩ := info_parts brInfo2
  go_enter Try.func56, Try.ntmps56
  go_wp2_with (first | (refine wpList_make_full _ rfl _ _ 24 rfl w.heap.size 71 i0 (.agg #[.int .i64 0, .slice none 0 0]) 2 Try.underlying24 hi hz0 hz1 .i64 .i64 _ _ Bs.length rfl rfl rfl rfl ?c1 ?c2 ?c3 ?_))
  case c1 => rw [hz2]; omega
  case c2 => unfold maxLen; omega
  case c3 => exact Nat.le_refl _
  intro w1 hown hgrow
  have F0 : NF w.heap.size Bs (fun _ => 0) 0 w w1 := nf_made hown hgrow
  clear hown hgrow
  go_wp2
  go_loopw [4] (fun i wr => ∃ (k : Nat) (Ns : Nat → Nat), k ≤ Bs.length ∧ i = .int .i64 k ∧ NF w.heap.size Bs Ns k w wr) (fun i _ => Bs.length - (intOf i).toNat)
  case atStart => exact ⟨0, _, Nat.zero_le _, rfl, F0⟩
  case round =>
    obtain ⟨k, Ns, hk, rfl, F⟩ := hrel
    clear F0
    by_cases hlt : k < Bs.length
    · obtain ⟨b, off, rfl⟩ := hv.ad_ (by omega)
      have hck := (hv.below F.bel (Nat.le_refl _)).at_ hlt
      have hnk := (hv.below F.bel (Nat.le_refl _)).nest k hlt
      have hlk := hls k hlt
      have hs := F.bel.size
      have hfl := F.fill.lt
      have st := fun (w2 : World) (N : Nat) (G : NF w.heap.size Bs Ns k w w2) (h1 : wr.heap.size ≤ N) (h2 : N < w2.heap.size) => G.step (N := N) hlt ⟨by omega, h2⟩ (fun j hj => by have := (F.nb j hj).2; omega)
      obtain ⟨m, hh⟩ : ∃ m, Bs.getD k Bd.nil = m := ⟨_, rfl⟩
      rw [hh] at hck hnk hlk
      simp only [hh] at st
      obtain ⟨c1, c2⟩ := hck
      clear hv hls hh
      go_wp2_with fail
      go_at_call 81
      refine (brTo m.id m.ad m.cap m.L wr hnk hlk).mono ?_
      rintro e w2 ⟨N, rfl, n1, n2, o2, k2⟩
      have G := F.later k2
      have G1 := st w2 N G n1 n2 (o2.base hs)
      obtain ⟨u0, hu0⟩ := G.fill.cell (k * 2) (by rw [cpyN_len]; omega)
      obtain ⟨u1, hu1⟩ := G.fill.cell (k * 2 + 1) (by rw [cpyN_len]; omega)
      have f0 := G.fill.frozen (k * 2)
      have f1 := G.fill.frozen (k * 2 + 1)
      clear F G st o2 hnk hfl
      go_wp2
      go_roundw
      case rel => exact ⟨k + 1, _, by omega, by go_num, G1⟩
      case measure => simp [intOf]; omega
    · obtain rfl : k = Bs.length := by omega
      go_wp2
      go_ret
      exact ⟨Ns, rfl, F⟩

end Go.Proofs.Ytdfjfodfnildiaa
namespace Go.Proofs.Ytdfjfodfnildiaa
open Go.ChangeShapes Go.WideShapes Go.ChangeAt Go.RowKit
open Go.ChangeMaps (open_string shut_string)
set_option linter.unusedVariables false
set_option maxRecDepth 100000

/-- What toNet makes. -/
structure NetMade (w w' : World) (gB gK : Nat) (Bs : List Bd) (K : List Lk) (Cs : List Bd) : Prop where
  d : Cs.map Bd.d = Bs.map Bd.d
  len : Cs.length = Bs.length
  own : NOwn w.heap.size gK w' (.slice (some ⟨gB, 0, none⟩) Bs.length Bs.length) Cs
  own2 : FOwn lkEnc 4 64 w.heap.size w' (.slice (some ⟨gK, 0, none⟩) K.length K.length) K
  lt : w.heap.size ≤ gK ∧ gK < w'.heap.size
  bel : Below w.heap.size w w'
set_option maxHeartbeats 2000000 in
theorem neTo (adB : Option Addr) (capB : Nat) (Bs : List Bd) (adK : Option Addr) (capK : Nat) (K : List Lk) (w : World) (vb : NV w adB Bs) (vk : FView lkEnc w adK K) (hl : Bs.length ≤ 1048576) (hls : ∀ i, i < Bs.length → (Bs.getD i Bd.nil).L.length ≤ 1048576) (hk : K.length ≤ 1048576) :
    Calls Try.prog 30 #[.agg #[.slice adB Bs.length capB, .slice adK K.length capK]] w fun e w' => ∃ gB gK Cs, e = .returned (.agg #[.slice (some ⟨gB, 0, none⟩) Bs.length Bs.length, .slice (some ⟨gK, 0, none⟩) K.length K.length]) ∧ NetMade w w' gB gK Bs K Cs := by
  have hkB := vk.lt lkEnc_len (by omega)
  obtain ⟨y, hy⟩ : ∃ y, y = ((w.alloc (Obj.cells #[.slice adB Bs.length capB, .slice adK K.length capK] 43)).alloc (Obj.cells #[.slice none 0 0, .slice none 0 0] 27)).alloc (Obj.cells #[.slice none 0 0, .slice none 0 0] 27) := ⟨_, rfl⟩
  have B0 : Below w.heap.size w y := by rw [hy]; exact (((Below.refl _ _).alloc (Nat.le_refl _) _).alloc (by simp) _).alloc (by simp; omega) _
  have A0 : NeAt y w.heap.size (.slice adB Bs.length capB) (.slice adK K.length capK) := by rw [hy]; constructor <;> simp [go_sem]
  have A1 : NeAt y (w.heap.size + 1) (.slice none 0 0) (.slice none 0 0) := by rw [hy]; constructor <;> simp [go_sem]
  have A2 : NeAt y (w.heap.size + 1 + 1) (.slice none 0 0) (.slice none 0 0) := by rw [hy]; constructor <;> simp [go_sem]
  have F1 : ∀ i, y.frozen? ⟨w.heap.size + 1, i, none⟩ = false := fun i => by rw [hy]; simp [go_sem]
  have F2 : ∀ i, y.frozen? ⟨w.heap.size + 1 + 1, i, none⟩ = false := fun i => by rw [hy]; simp [go_sem]
  have S0 := A2.lt
  go_enter Try.func30, Try.ntmps30
  go_wp2_with fail
  go_at_call 56
  rw [← hy]
  clear hy
  refine (bdTo adB capB Bs y (vb.below B0 (Nat.le_refl _)) hl hls).mono ?_
  rintro e w1 ⟨Ns, rfl, F⟩
  generalize hg : y.heap.size = g at F S0 ⊢
  have hgb : Hid (w.heap.size ≤ g) := by have := B0.size; unfold Hid; omega
  have hg1 := F.fill.lt
  have O1 := F.own
  have dl : Hid ((cpyN Bs Ns).length = Bs.length) := cpyN_len Bs Ns
  have dd : Hid ((cpyN Bs Ns).map Bd.d = Bs.map Bd.d) := cpyN_d Bs Ns
  have k1 : Below g y w1 := F.bel
  generalize cpyN Bs Ns = Cs at O1 dl dd
  clear F
  have A0 := A0.below k1 (by omega)
  have A1 := A1.below k1 (by omega)
  have A2 := A2.below k1 (by omega)
  have F1 : ∀ i, w1.frozen? ⟨w.heap.size + 1, i, none⟩ = false := fun i => (World.frozen?_of_block (a := ⟨w.heap.size + 1, i, none⟩) (k1.block (w.heap.size + 1) (by omega))).trans (F1 i)
  have F2 : ∀ i, w1.frozen? ⟨w.heap.size + 1 + 1, i, none⟩ = false := fun i => (World.frozen?_of_block (a := ⟨w.heap.size + 1 + 1, i, none⟩) (k1.block (w.heap.size + 1 + 1) (by omega))).trans (F2 i)
  have B1 := B0.trans (k1.mono (by have := hgb.out; omega))
  clear hg k1 B0 vb
  obtain ⟨z, hz⟩ : ∃ z, z = w1.setCell ⟨w.heap.size + 1 + 1, 0, none⟩ (.slice (some ⟨g, 0, none⟩) Bs.length Bs.length) := ⟨_, rfl⟩
  have zs : z.heap.size = w1.heap.size := by rw [hz]; simp
  have zb : ∀ j, j ≠ w.heap.size + 1 + 1 → z.heap[j]? = w1.heap[j]? := fun j hj => by rw [hz]; exact Below.heap_setCell _ _ _ _ hj
  have B2 : Below w.heap.size w z := by rw [hz]; exact B1.setCell (by show _ ≤ w.heap.size + 1 + 1; omega) _
  have E0 : NeAt z w.heap.size (.slice adB Bs.length capB) (.slice adK K.length capK) := A0.keep (zb _ (by omega))
  have E1 : NeAt z (w.heap.size + 1) (.slice none 0 0) (.slice none 0 0) := A1.keep (zb _ (by omega))
  have E2 : NeAt z (w.heap.size + 1 + 1) (.slice (some ⟨g, 0, none⟩) Bs.length Bs.length) (.slice none 0 0) := by
    rw [hz]
    exact ⟨pset_same A2.c0, (pset_else (by decide)).trans A2.c1⟩
  have G1 : ∀ i, z.frozen? ⟨w.heap.size + 1, i, none⟩ = false := fun i => (World.frozen?_of_block (a := ⟨w.heap.size + 1, i, none⟩) (zb (w.heap.size + 1) (by omega))).trans (F1 i)
  have G2 : ∀ i, z.frozen? ⟨w.heap.size + 1 + 1, i, none⟩ = false := fun i => by rw [hz, World.frozen?_setCell]; exact F2 i
  have O2 : NOwn g w1.heap.size z (.slice (some ⟨g, 0, none⟩) Bs.length Bs.length) Cs := O1.keep fun j hj _ => zb j (by omega)
  clear O1 B1 zb
  have f20 := F2 0
  obtain ⟨a20, a21⟩ := A2
  obtain ⟨a00, a01⟩ := A0
  go_wp2_with fail
  go_at_call 57
  rw [← hz]
  clear hz a20 a21 a00 a01 f20 F1 F2 A1
  refine (lkToS adK capK K z (vk.below B2 hkB) hk).mono ?_
  rintro e w2 ⟨rfl, OK, k2⟩
  rw [zs] at OK k2 ⊢
  have hgk : w1.heap.size < w2.heap.size := (OK.lt _ rfl).2
  have E1 := E1.below k2 (by omega)
  have E2 := E2.below k2 (by omega)
  have G1 : ∀ i, w2.frozen? ⟨w.heap.size + 1, i, none⟩ = false := fun i => (World.frozen?_of_block (a := ⟨w.heap.size + 1, i, none⟩) (k2.block (w.heap.size + 1) (by omega))).trans (G1 i)
  have G2 : ∀ i, w2.frozen? ⟨w.heap.size + 1 + 1, i, none⟩ = false := fun i => (World.frozen?_of_block (a := ⟨w.heap.size + 1 + 1, i, none⟩) (k2.block (w.heap.size + 1 + 1) (by omega))).trans (G2 i)
  have B3 := B2.trans (k2.mono (by omega))
  have O3 := O2.below k2 (Nat.le_refl _)
  generalize hgk2 : w1.heap.size = gK at OK O3 hgk ⊢
  have hgg : Hid (g < gK) := by unfold Hid; omega
  clear hgk2 k2 B2 O2 E0 hg1 zs
  obtain ⟨a0, a1⟩ := E1
  obtain ⟨c0, c1⟩ := E2
  have f10 := G1 0
  have f11 := G1 1
  have f21 := G2 1
  obtain ⟨u, hu⟩ : ∃ u, u = ((w2.setCell ⟨w.heap.size + 1 + 1, 1, none⟩ (.slice (some ⟨gK, 0, none⟩) K.length K.length)).setCell ⟨w.heap.size + 1, 0, none⟩ (.slice (some ⟨g, 0, none⟩) Bs.length Bs.length)).setCell ⟨w.heap.size + 1, 1, none⟩ (.slice (some ⟨gK, 0, none⟩) K.length K.length) := ⟨_, rfl⟩
  have ub : ∀ j, w.heap.size + 1 + 1 < j → u.heap[j]? = w2.heap[j]? := fun j hj => by
    rw [hu, Below.heap_setCell _ _ _ _ (by show j ≠ w.heap.size + 1; omega), Below.heap_setCell _ _ _ _ (by show j ≠ w.heap.size + 1; omega), Below.heap_setCell _ _ _ _ (by show j ≠ w.heap.size + 1 + 1; omega)]
  have M : NetMade w u g gK Bs K Cs := by
    have h1 := hgg.out
    have h2 := hgb.out
    refine ⟨dd.out, dl.out, ?_, ?_, ⟨by omega, by rw [hu]; simpa using hgk⟩, ?_⟩
    · exact (O3.keep fun j hj _ => ub j (by omega)).wide h2 (Nat.le_refl _)
    · refine (OK.base (by omega)).keep fun j e => ub j ?_
      have : gK = j := by simpa [Value.ownBlock] using e
      omega
    · rw [hu]
      exact ((B3.setCell (by show _ ≤ w.heap.size + 1 + 1; omega) _).setCell (by show _ ≤ w.heap.size + 1; omega) _).setCell (by show _ ≤ w.heap.size + 1; omega) _
  clear ub O3 OK B3 G1 G2 dd dl
  go_wp2
  rw [← hu]
  refine bodyPost_ret (v := .agg #[.slice (some ⟨g, 0, none⟩) Bs.length Bs.length, .slice (some ⟨gK, 0, none⟩) K.length K.length]) (by rw [hu]; simp [results, Try.results30, go_sem, *]) rfl ⟨g, gK, Cs, rfl, M⟩

end Go.Proofs.Ytdfjfodfnildiaa
namespace Go.Proofs.Ytdfjfodfnildiaa
open Go.ChangeShapes Go.WideShapes Go.ChangeAt Go.RowKit
open Go.ChangeMaps (open_string shut_string)
set_option linter.unusedVariables false
set_option maxRecDepth 100000

set_option maxHeartbeats 1000000 in
theorem bdEq (ad ad' : Option Addr) (cap cap' : Nat) (Bs Bs' : List Bd) (w : World) (hv : NV w ad Bs) (hv' : NV w ad' Bs') (hd : Bs'.map Bd.d = Bs.map Bd.d) (hl : Bs.length ≤ 1048576) (hls : ∀ i, i < Bs.length → (Bs.getD i Bd.nil).L.length ≤ 1048576) :
    Calls Try.prog 58 #[.slice ad Bs.length cap, .slice ad' Bs'.length cap'] w fun e w' => e = .returned (.bool true) ∧ Below w.heap.size w w' := by
  have hlen : Bs'.length = Bs.length := by have := congrArg List.length hd; simpa using this
  have hsame : ∀ i, (Bs'.getD i Bd.nil).id = (Bs.getD i Bd.nil).id ∧ (Bs'.getD i Bd.nil).L = (Bs.getD i Bd.nil).L := fun i => by
    have := congrArg (fun D => D.getD i Bg.nil) hd
    simp only [bd_get] at this
    simpa [Bd.d] using this
  rw [hlen]
  go_enter Try.func58, Try.ntmps58
  go_wp2
  go_loopw [5] (fun i wr => ∃ k : Nat, k ≤ Bs.length ∧ i = .int .i64 k ∧ Below w.heap.size w wr) (fun i _ => Bs.length - (intOf i).toNat)
  case atStart => exact ⟨0, Nat.zero_le _, rfl, Below.refl _ _⟩
  case round =>
    obtain ⟨k, hk, rfl, hb⟩ := hrel
    by_cases hlt : k < Bs.length
    · obtain ⟨b, off, rfl⟩ := hv.ad_ (by omega)
      obtain ⟨b', off', rfl⟩ := hv'.ad_ (by omega)
      have hlk := hls k hlt
      have hn : ∀ Y, Below w.heap.size w Y → FView ptEnc Y (Bs.getD k Bd.nil).ad (Bs.getD k Bd.nil).L := fun Y hY => (hv.below hY (Nat.le_refl _)).nest k hlt
      have hn' : ∀ Y, Below w.heap.size w Y → FView ptEnc Y (Bs'.getD k Bd.nil).ad (Bs'.getD k Bd.nil).L := fun Y hY => (hv'.below hY (Nat.le_refl _)).nest k (by omega)
      have hc : ∀ Y, Below w.heap.size w Y → BdAtO Y b (off + k * 2) (Bs.getD k Bd.nil) := fun Y hY => (hv.below hY (Nat.le_refl _)).at_ hlt
      have hc' : ∀ Y, Below w.heap.size w Y → BdAtO Y b' (off' + k * 2) (Bs'.getD k Bd.nil) := fun Y hY => (hv'.below hY (Nat.le_refl _)).at_ (by omega)
      obtain ⟨e1, e2⟩ := hsame k
      obtain ⟨⟨id, a1, c1, L1⟩, hh⟩ : ∃ m, Bs.getD k Bd.nil = m := ⟨_, rfl⟩
      obtain ⟨⟨id', a2, c2, L2⟩, hh'⟩ : ∃ m, Bs'.getD k Bd.nil = m := ⟨_, rfl⟩
      rw [hh] at e1 e2 hlk
      rw [hh'] at e1 e2
      simp only [hh] at hn hc
      simp only [hh'] at hn' hc'
      dsimp only at e1 e2 hlk hn hn'
      subst e1 e2
      clear hh hh' hv hv' hsame hls hd hlen
      go_wp2_with fail
      refine wp_region_held (S := fun Y => Below w.heap.size w Y) (by kernel_rfl) ?_
      change wpAnyH _ _ _ _ _ _ _ _ (World.drew _)
      have hb0 : Below w.heap.size w wr.drew := hb.drew
      refine takeW 0 17 (.slice (some ⟨b, off, none⟩) Bs.length cap) rfl rfl (by kernel_rfl) (by kernel_rfl) (by kernel_rfl) (fun _ _ _ h => h) (by kernel_rfl) (by (intro w hSw; go_simp)) (by assumption) ?_
      simp only [List.set_cons_zero, List.set_cons_succ]
      refine takeW 1 18 (.int .i64 k) rfl rfl (by kernel_rfl) (by kernel_rfl) (by kernel_rfl) (fun _ _ _ h => h) (by kernel_rfl) (by (intro w hSw; go_simp)) (by assumption) ?_
      simp only [List.set_cons_zero, List.set_cons_succ]
      refine takeW 2 19 (.pointer (some ⟨b, off + k * 2, none⟩)) rfl rfl (by kernel_rfl) (by kernel_rfl) (by kernel_rfl) (fun _ _ _ h => h) (by kernel_rfl) (by (intro Y hSw; go_simp; try omega)) (by assumption) ?_
      simp only [List.set_cons_zero, List.set_cons_succ]
      refine takeW 3 20 (.agg #[.int .i64 id', .slice a1 L2.length c1]) rfl rfl (by kernel_rfl) (by kernel_rfl) (by kernel_rfl) (fun _ _ _ h => h) (by kernel_rfl) (by (intro Y hSw; obtain ⟨X1, X2⟩ := hc Y hSw; go_simp)) (by assumption) ?_
      simp only [List.set_cons_zero, List.set_cons_succ]
      refine takeW 4 21 (.slice (some ⟨b', off', none⟩) Bs.length cap') rfl rfl (by kernel_rfl) (by kernel_rfl) (by kernel_rfl) (fun _ _ _ h => h) (by kernel_rfl) (by (intro w hSw; go_simp)) (by assumption) ?_
      simp only [List.set_cons_zero, List.set_cons_succ]
      refine takeW 5 22 (.int .i64 k) rfl rfl (by kernel_rfl) (by kernel_rfl) (by kernel_rfl) (fun _ _ _ h => h) (by kernel_rfl) (by (intro w hSw; go_simp)) (by assumption) ?_
      simp only [List.set_cons_zero, List.set_cons_succ]
      refine takeW 6 23 (.pointer (some ⟨b', off' + k * 2, none⟩)) rfl rfl (by kernel_rfl) (by kernel_rfl) (by kernel_rfl) (fun _ _ _ h => h) (by kernel_rfl) (by (intro Y hSw; go_simp; try omega)) (by assumption) ?_
      simp only [List.set_cons_zero, List.set_cons_succ]
      refine takeW 7 24 (.agg #[.int .i64 id', .slice a2 L2.length c2]) rfl rfl (by kernel_rfl) (by kernel_rfl) (by kernel_rfl) (fun _ _ _ h => h) (by kernel_rfl) (by (intro Y hSw; obtain ⟨X1, X2⟩ := hc' Y hSw; go_simp)) (by assumption) ?_
      simp only [List.set_cons_zero, List.set_cons_succ]
      refine wpAnyH_all (rs := [8]) (by kernel_rfl) (by simp) ?_
      intro i hi; obtain rfl : i = 8 := by simpa using hi
      refine wpOp_step rfl (fun K hK => ?_)
      rw [if_pos (by kernel_rfl)]
      go_simp
      go_at_call 83
      refine (brEq id' a1 a2 c1 c2 L2 _ (hn _ hb0) (hn' _ hb0) hlk).mono ?_
      rintro e y1 ⟨rfl, j1⟩
      have hb1 : Below w.heap.size w y1 := hb0.trans (j1.mono hb0.size)
      refine hK _ _ ⟨hb1, ?_⟩
      clear hK K hi
      refine takeW 9 26 (.bool false) rfl rfl (by kernel_rfl) (by kernel_rfl) (by kernel_rfl) (fun _ _ _ h => h) (by kernel_rfl) (by (intro w hSw; go_simp)) (by assumption) ?_
      simp only [List.set_cons_zero, List.set_cons_succ]
      refine wpAnyH_done (by kernel_rfl) ?_ _
      go_wp2
      go_roundw
      case rel => exact ⟨k + 1, by omega, by go_num, hb1⟩
      case measure => simp [intOf]; omega
    · obtain rfl : k = Bs.length := by omega
      go_wp2
      go_ret
      exact ⟨rfl, hb⟩

end Go.Proofs.Ytdfjfodfnildiaa
namespace Go.Proofs.Ytdfjfodfnildiaa
open Go.ChangeShapes Go.WideShapes Go.ChangeAt Go.RowKit
open Go.ChangeMaps (open_string shut_string)
set_option linter.unusedVariables false
set_option maxRecDepth 100000

set_option maxHeartbeats 2000000 in
theorem lkEqS (ad ad' : Option Addr) (cap cap' : Nat) (L : List Lk) (w : World) (hv : FView lkEnc w ad L) (hv' : FView lkEnc w ad' L) (hl : L.length ≤ 1048576) :
    Calls Try.prog 59 #[.slice ad L.length cap, .slice ad' L.length cap'] w fun e w' => e = .returned (.bool true) ∧ Below w.heap.size w w' := by
  have hB := hv.lt lkEnc_len (by omega)
  have hB' := hv'.lt lkEnc_len (by omega)
  go_enter Try.func59, Try.ntmps59
  go_wp2
  go_loopw [5] (fun i wr => ∃ k : Nat, k ≤ L.length ∧ i = .int .i64 k ∧ Below w.heap.size w wr) (fun i _ => L.length - (intOf i).toNat)
  case atStart => exact ⟨0, Nat.zero_le _, rfl, Below.refl _ _⟩
  case round =>
    obtain ⟨k, hk, rfl, hb⟩ := hrel
    by_cases hlt : k < L.length
    · obtain ⟨b, off, rfl, _⟩ := hv (by omega)
      obtain ⟨b', off', rfl, _⟩ := hv' (by omega)
      obtain ⟨h, hh⟩ : ∃ h, L.getD k Lk.nil = h := ⟨_, rfl⟩
      have hc : ∀ Y, Below w.heap.size w Y → LkAtO Y b (off + k * 4) h := fun Y hY => by rw [← hh]; exact lkAtO_of ((hv.below hY hB).at_ lkEnc_len Lk.nil hlt)
      have hc' : ∀ Y, Below w.heap.size w Y → LkAtO Y b' (off' + k * 4) h := fun Y hY => by rw [← hh]; exact lkAtO_of ((hv'.below hY hB').at_ lkEnc_len Lk.nil hlt)
      clear hh hv hv' hB hB'
      go_wp2_with fail
      refine wp_region_held (S := fun Y => Below w.heap.size w Y) (by kernel_rfl) ?_
      change wpAnyH _ _ _ _ _ _ _ _ (World.drew _)
      have hb0 : Below w.heap.size w wr.drew := hb.drew
      refine takeW 0 17 (.slice (some ⟨b, off, none⟩) L.length cap) rfl rfl (by kernel_rfl) (by kernel_rfl) (by kernel_rfl) (fun _ _ _ h => h) (by kernel_rfl) (by (intro w hSw; go_simp)) (by assumption) ?_
      simp only [List.set_cons_zero, List.set_cons_succ]
      refine takeW 1 18 (.int .i64 k) rfl rfl (by kernel_rfl) (by kernel_rfl) (by kernel_rfl) (fun _ _ _ h => h) (by kernel_rfl) (by (intro w hSw; go_simp)) (by assumption) ?_
      simp only [List.set_cons_zero, List.set_cons_succ]
      refine takeW 2 19 (.pointer (some ⟨b, off + k * 4, none⟩)) rfl rfl (by kernel_rfl) (by kernel_rfl) (by kernel_rfl) (fun _ _ _ h => h) (by kernel_rfl) (by (intro Y hSw; go_simp; try omega)) (by assumption) ?_
      simp only [List.set_cons_zero, List.set_cons_succ]
      refine takeW 3 20 (.agg #[.int .i64 h.a, .int .i64 h.p, .int .i64 h.b, .int .i64 h.q]) rfl rfl (by kernel_rfl) (by kernel_rfl) (by kernel_rfl) (fun _ _ _ h => h) (by kernel_rfl) (by (intro Y hSw; obtain ⟨X0, X1, X2, X3⟩ := hc Y hSw; go_simp)) (by assumption) ?_
      simp only [List.set_cons_zero, List.set_cons_succ]
      refine takeW 4 21 (.slice (some ⟨b', off', none⟩) L.length cap') rfl rfl (by kernel_rfl) (by kernel_rfl) (by kernel_rfl) (fun _ _ _ h => h) (by kernel_rfl) (by (intro w hSw; go_simp)) (by assumption) ?_
      simp only [List.set_cons_zero, List.set_cons_succ]
      refine takeW 5 22 (.int .i64 k) rfl rfl (by kernel_rfl) (by kernel_rfl) (by kernel_rfl) (fun _ _ _ h => h) (by kernel_rfl) (by (intro w hSw; go_simp)) (by assumption) ?_
      simp only [List.set_cons_zero, List.set_cons_succ]
      refine takeW 6 23 (.pointer (some ⟨b', off' + k * 4, none⟩)) rfl rfl (by kernel_rfl) (by kernel_rfl) (by kernel_rfl) (fun _ _ _ h => h) (by kernel_rfl) (by (intro Y hSw; go_simp; try omega)) (by assumption) ?_
      simp only [List.set_cons_zero, List.set_cons_succ]
      refine takeW 7 24 (.agg #[.int .i64 h.a, .int .i64 h.p, .int .i64 h.b, .int .i64 h.q]) rfl rfl (by kernel_rfl) (by kernel_rfl) (by kernel_rfl) (fun _ _ _ h => h) (by kernel_rfl) (by (intro Y hSw; obtain ⟨X0, X1, X2, X3⟩ := hc' Y hSw; go_simp)) (by assumption) ?_
      simp only [List.set_cons_zero, List.set_cons_succ]
      refine wpAnyH_all (rs := [8]) (by kernel_rfl) (by simp) ?_
      intro i hi; obtain rfl : i = 8 := by simpa using hi
      refine wpOp_step rfl (fun K hK => ?_)
      rw [if_pos (by kernel_rfl)]
      go_simp
      go_at_call 84
      refine (eqLk h _).mono ?_
      rintro e y1 ⟨rfl, j1⟩
      have hb1 : Below w.heap.size w y1 := hb0.trans (j1.mono hb0.size)
      refine hK _ _ ⟨hb1, ?_⟩
      clear hK K hi
      refine takeW 9 26 (.bool false) rfl rfl (by kernel_rfl) (by kernel_rfl) (by kernel_rfl) (fun _ _ _ h => h) (by kernel_rfl) (by (intro w hSw; go_simp)) (by assumption) ?_
      simp only [List.set_cons_zero, List.set_cons_succ]
      refine wpAnyH_done (by kernel_rfl) ?_ _
      go_wp2
      go_roundw
      case rel => exact ⟨k + 1, by omega, by go_num, hb1⟩
      case measure => simp [intOf]; omega
    · obtain rfl : k = L.length := by omega
      go_wp2
      go_ret
      exact ⟨rfl, hb⟩

end Go.Proofs.Ytdfjfodfnildiaa
namespace Go.Proofs.Ytdfjfodfnildiaa
open Go.ChangeShapes Go.WideShapes Go.ChangeAt Go.RowKit
open Go.ChangeMaps (open_string shut_string)
set_option linter.unusedVariables false
set_option maxRecDepth 100000

set_option maxHeartbeats 1000000 in
theorem neEq (adB adB' : Option Addr) (capB capB' : Nat) (Bs Bs' : List Bd) (adK adK' : Option Addr) (capK capK' : Nat) (K : List Lk) (w : World) (vb : NV w adB Bs) (vb' : NV w adB' Bs') (hd : Bs'.map Bd.d = Bs.map Bd.d) (vk : FView lkEnc w adK K) (vk' : FView lkEnc w adK' K) (hl : Bs.length ≤ 1048576) (hls : ∀ i, i < Bs.length → (Bs.getD i Bd.nil).L.length ≤ 1048576) (hk : K.length ≤ 1048576) :
    Calls Try.prog 31 #[.agg #[.slice adB Bs.length capB, .slice adK K.length capK], .agg #[.slice adB' Bs'.length capB', .slice adK' K.length capK']] w fun e w' => e = .returned (.bool true) ∧ Below w.heap.size w w' := by
  have hkB := vk.lt lkEnc_len (by omega)
  have hkB' := vk'.lt lkEnc_len (by omega)
  obtain ⟨y, hy⟩ : ∃ y, y = (w.alloc (Obj.cells #[.slice adB Bs.length capB, .slice adK K.length capK] 27)).alloc (Obj.cells #[.slice adB' Bs'.length capB', .slice adK' K.length capK'] 27) := ⟨_, rfl⟩
  have B0 : Below w.heap.size w y := by rw [hy]; exact ((Below.refl _ _).alloc (Nat.le_refl _) _).alloc (by simp) _
  have A0 : NeAt y w.heap.size (.slice adB Bs.length capB) (.slice adK K.length capK) := by rw [hy]; constructor <;> simp [go_sem]
  have A1 : NeAt y (w.heap.size + 1) (.slice adB' Bs'.length capB') (.slice adK' K.length capK') := by rw [hy]; constructor <;> simp [go_sem]
  have l1 := A1.lt
  go_enter Try.func31, Try.ntmps31
  go_wp2_with fail
  go_at_call 58
  rw [← hy]
  clear hy
  refine (bdEq adB adB' capB capB' Bs Bs' y (vb.below B0 (Nat.le_refl _)) (vb'.below B0 (Nat.le_refl _)) hd hl hls).mono ?_
  rintro e w1 ⟨rfl, k1⟩
  have B1 := B0.trans (k1.mono B0.size)
  obtain ⟨a0, a1⟩ := A0.below k1 (by omega)
  obtain ⟨c0, c1⟩ := A1.below k1 (by omega)
  clear A0 A1 k1 B0 vb vb' hd
  go_wp2_with fail
  go_at_call 59
  refine (lkEqS adK adK' capK capK' K w1 (vk.below B1 hkB) (vk'.below B1 hkB') hk).mono ?_
  rintro e w2 ⟨rfl, k2⟩
  have B2 := B1.trans (k2.mono B1.size)
  clear k2 B1
  go_wp2
  go_ret
  exact ⟨rfl, B2⟩

end Go.Proofs.Ytdfjfodfnildiaa
namespace Go.Proofs.Ytdfjfodfnildiaa
open Go.ChangeShapes Go.WideShapes Go.ChangeAt Go.RowKit
open Go.ChangeMaps (open_string shut_string)
set_option linter.unusedVariables false
set_option maxRecDepth 100000

/-- A net that a call made: its memory is its own, from lo on; the bridges' lies below gK, the links' at gK. -/
structure NetMine (lo : Nat) (w : World) (gB gK : Nat) (Cs : List Bd) (K : List Lk) : Prop where
  own : NOwn lo gK w (.slice (some ⟨gB, 0, none⟩) Cs.length Cs.length) Cs
  own2 : FOwn lkEnc 4 64 lo w (.slice (some ⟨gK, 0, none⟩) K.length K.length) K
  lt : lo ≤ gK ∧ gK < w.heap.size
theorem NetMine.later {lo : Nat} {w w' : World} {gB gK : Nat} {Cs : List Bd} {K : List Lk} (h : NetMine lo w gB gK Cs K) (k : Below w.heap.size w w') : NetMine lo w' gB gK Cs K :=
  ⟨h.own.below k (Nat.le_of_lt h.lt.2), h.own2.later k, h.lt.1, Nat.lt_of_lt_of_le h.lt.2 k.size⟩
theorem NetMine.nn {lo : Nat} {w : World} {gB gK : Nat} {Cs : List Bd} {K : List Lk} (h : NetMine lo w gB gK Cs K) (hl : Cs.length ≤ 1048576) (hls : ∀ i, i < Cs.length → (Cs.getD i Bd.nil).L.length ≤ 1048576) (hk : K.length ≤ 1048576) : NN w (some ⟨gB, 0, none⟩) Cs (some ⟨gK, 0, none⟩) K :=
  ⟨h.own.view.2, h.own2.view.2, hl, hls, hk⟩
theorem same_ls {Bs Cs : List Bd} (h : Cs.map Bd.d = Bs.map Bd.d) {n : Nat} (hls : ∀ i, i < Bs.length → (Bs.getD i Bd.nil).L.length ≤ n) : ∀ i, i < Cs.length → (Cs.getD i Bd.nil).L.length ≤ n := by
  intro i hi
  have hl : Cs.length = Bs.length := by have := congrArg List.length h; simpa using this
  have := congrArg (fun D => D.getD i Bg.nil) h
  simp only [bd_get] at this
  have e : (Cs.getD i Bd.nil).L = (Bs.getD i Bd.nil).L := congrArg Bg.L this
  rw [e]
  exact hls i (by omega)
theorem netTo (adB : Option Addr) (capB : Nat) (Bs : List Bd) (adK : Option Addr) (capK : Nat) (K : List Lk) (w : World) (h : NN w adB Bs adK K) :
    Calls Try.prog 30 #[.agg #[.slice adB Bs.length capB, .slice adK K.length capK]] w fun e w' => ∃ gB gK Cs, e = .returned (.agg #[.slice (some ⟨gB, 0, none⟩) Cs.length Cs.length, .slice (some ⟨gK, 0, none⟩) K.length K.length]) ∧ Cs.map Bd.d = Bs.map Bd.d ∧ NetMine w.heap.size w' gB gK Cs K ∧ NN w' (some ⟨gB, 0, none⟩) Cs (some ⟨gK, 0, none⟩) K ∧ Below w.heap.size w w' := by
  refine (neTo adB capB Bs adK capK K w h.vb h.vk h.hl h.hls h.hk).mono ?_
  rintro e w' ⟨gB, gK, Cs, rfl, M⟩
  have hm : NetMine w.heap.size w' gB gK Cs K := ⟨by rw [M.len]; exact M.own, M.own2, M.lt⟩
  exact ⟨gB, gK, Cs, by rw [M.len], M.d, hm, hm.nn (by rw [M.len]; exact h.hl) (same_ls M.d h.hls) h.hk, M.bel⟩
theorem netEq (adB adB' : Option Addr) (capB capB' : Nat) (Bs Bs' : List Bd) (adK adK' : Option Addr) (capK capK' : Nat) (K : List Lk) (w : World) (h : NN w adB Bs adK K) (h' : NN w adB' Bs' adK' K) (hd : Bs'.map Bd.d = Bs.map Bd.d) :
    Calls Try.prog 31 #[.agg #[.slice adB Bs.length capB, .slice adK K.length capK], .agg #[.slice adB' Bs'.length capB', .slice adK' K.length capK']] w fun e w' => e = .returned (.bool true) ∧ Below w.heap.size w w' :=
  neEq adB adB' capB capB' Bs Bs' adK adK' capK capK' K w h.vb h'.vb hd h.vk h'.vk h.hl h.hls h.hk

end Go.Proofs.Ytdfjfodfnildiaa
namespace Go.Proofs.Ytdfjfodfnildiaa
open Go.ChangeShapes Go.WideShapes Go.ChangeAt Go.RowKit
open Go.ChangeMaps (open_string shut_string)
set_option linter.unusedVariables false
set_option maxRecDepth 100000

theorem getD_push {X : Type} (L : List X) (x d : X) (i : Nat) : (L ++ [x]).getD i d = if i < L.length then L.getD i d else if i = L.length then x else d := by
  by_cases h : i < L.length
  · rw [if_pos h]; simp [List.getD, List.getElem?_append_left h]
  · rw [if_neg h]
    by_cases e : i = L.length
    · rw [if_pos e, e]; simp [List.getD]
    · rw [if_neg e]
      have : (L ++ [x])[i]? = none := List.getElem?_eq_none (by simp; omega)
      simp [List.getD, this]
/-- One bridge more. -/
theorem NOwn.push {lo hi : Nat} {w w' : World} {v v' : Value} {Bs : List Bd} {x : Bd} (h : NOwn lo hi w v Bs) (hs : hi ≤ w.heap.size)
    (row : FOwn bdEnc 2 71 lo w' v' (Bs ++ [x])) (gr : w.grownBy w' v.ownBlock) (hv : v'.ownBlock = v.ownBlock ∨ ∃ g, v'.ownBlock = some g ∧ w.heap.size ≤ g)
    (nx : FOwn ptEnc 11 68 lo w x.v x.L) (hx : ∀ g, x.v.ownBlock = some g → hi ≤ g ∧ g < w.heap.size) : NOwn lo w'.heap.size w' v' (Bs ++ [x]) := by
  have hvl : ∀ g, v.ownBlock = some g → lo ≤ g ∧ g < w.heap.size := fun g e => h.row.lt g e
  have sz := gr.size
  have hvg : ∀ g, v'.ownBlock = some g → v.ownBlock = some g ∨ w.heap.size ≤ g := fun g e => by
    rcases hv with q | ⟨g', q, hg⟩
    · exact .inl (by rw [← q]; exact e)
    · rw [q] at e
      cases e
      exact .inr hg
  have nb : ∀ i, i < Bs.length → ∀ g, (Bs.getD i Bd.nil).v.ownBlock = some g → g < hi := fun i hi g e => h.nhi i hi g e
  have get : ∀ i, i < (Bs ++ [x]).length → (i < Bs.length ∧ (Bs ++ [x]).getD i Bd.nil = Bs.getD i Bd.nil) ∨ (i = Bs.length ∧ (Bs ++ [x]).getD i Bd.nil = x) := fun i hi => by
    rw [getD_push]
    have : i < Bs.length + 1 := by simpa using hi
    by_cases q : i < Bs.length
    · exact .inl ⟨q, if_pos q⟩
    · have e : i = Bs.length := by omega
      exact .inr ⟨e, by rw [if_neg q, if_pos e]⟩
  refine ⟨row, fun i hi => ?_, fun g e => (row.lt g e).2, fun i hi g e => ?_, fun i hi g g' e e' => ?_, fun i j hij hj g g' e e' => ?_⟩
  · rcases get i hi with ⟨q, r⟩ | ⟨q, r⟩
    · rw [r]
      exact (h.nest i q).keep (fun g e => gr.block g (by have := nb i q g e; omega) (fun e2 => h.apart i q g g (by rw [← e2]) e rfl))
    · rw [r]
      exact nx.keep (fun g e => gr.block g (hx g e).2 (fun e2 => by have := h.rhi g (by rw [← e2]); have := (hx g e).1; omega))
  · rcases get i hi with ⟨q, r⟩ | ⟨q, r⟩
    · rw [r] at e
      have := nb i q g e
      omega
    · rw [r] at e
      have := (hx g e).2
      omega
  · rcases get i hi with ⟨q, r⟩ | ⟨q, r⟩
    · rw [r] at e'
      rcases hvg g e with k | k
      · exact h.apart i q g g' k e'
      · have := nb i q g' e'
        omega
    · rw [r] at e'
      have := hx g' e'
      rcases hvg g e with k | k
      · have := h.rhi g k
        omega
      · omega
  · have hj' : j < Bs.length + 1 := by simpa using hj
    rcases get i (by omega) with ⟨q, r⟩ | ⟨q, r⟩
    · rw [r] at e
      rcases get j hj with ⟨q2, r2⟩ | ⟨q2, r2⟩
      · rw [r2] at e'
        exact h.aparts i j hij q2 g g' e e'
      · rw [r2] at e'
        have := nb i q g e
        have := (hx g' e').1
        omega
    · omega
/-- A bridge in the place of another. -/
theorem NOwn.set {lo hi : Nat} {w : World} {g cap : Nat} {Bs : List Bd} {i : Nat} (h : NOwn lo hi w (.slice (some ⟨g, 0, none⟩) Bs.length cap) Bs) (hs : hi ≤ w.heap.size) (hi' : i < Bs.length) (x : Bd)
    (nx : FOwn ptEnc 11 68 lo w x.v x.L) (hx : ∀ k, x.v.ownBlock = some k → hi ≤ k ∧ k < w.heap.size) : NOwn lo w.heap.size (putAll w g (i * 2) (bdEnc x)) (.slice (some ⟨g, 0, none⟩) (Bs.set i x).length cap) (Bs.set i x) := by
  have row : FOwn bdEnc 2 71 lo (putAll w g (i * 2) (bdEnc x)) (.slice (some ⟨g, 0, none⟩) (Bs.set i x).length cap) (Bs.set i x) := by
    rw [List.length_set]
    exact h.row.set bdEnc_len (by omega) hi' x
  have hg : g < hi := h.rhi g rfl
  have bl : ∀ k, k ≠ g → (putAll w g (i * 2) (bdEnc x)).heap[k]? = w.heap[k]? := fun k hk => heap_putAll _ _ _ _ hk
  have get : ∀ j, j < (Bs.set i x).length → (j ≠ i ∧ j < Bs.length ∧ (Bs.set i x).getD j Bd.nil = Bs.getD j Bd.nil) ∨ (j = i ∧ (Bs.set i x).getD j Bd.nil = x) := fun j hj => by
    rw [List.length_set] at hj
    by_cases e : j = i
    · subst e
      exact .inr ⟨rfl, by simp [List.getD, hj]⟩
    · exact .inl ⟨e, hj, by simp [List.getD, List.getElem?_set_ne (Ne.symm e)]⟩
  refine ⟨row, fun j hj => ?_, fun k e => ?_, fun j hj k e => ?_, fun j hj k k' e e' => ?_, fun j l hjl hl k k' e e' => ?_⟩
  · rcases get j hj with ⟨q, q2, r⟩ | ⟨q, r⟩
    · rw [r]
      exact (h.nest j q2).keep (fun k e => bl k (fun e2 => h.apart j q2 g k rfl e e2.symm))
    · rw [r]
      exact nx.keep (fun k e => bl k (by have := (hx k e).1; omega))
  · obtain rfl : g = k := by simpa [Value.ownBlock] using e
    omega
  · rcases get j hj with ⟨q, q2, r⟩ | ⟨q, r⟩
    · rw [r] at e
      have := h.nhi j q2 k e
      omega
    · rw [r] at e
      exact (hx k e).2
  · obtain rfl : g = k := by simpa [Value.ownBlock] using e
    rcases get j hj with ⟨q, q2, r⟩ | ⟨q, r⟩
    · rw [r] at e'
      exact h.apart j q2 g k' rfl e'
    · rw [r] at e'
      have := (hx k' e').1
      omega
  · rcases get j (by omega) with ⟨q, q2, r⟩ | ⟨q, r⟩
    · rw [r] at e
      rcases get l hl with ⟨p, p2, s⟩ | ⟨p, s⟩
      · rw [s] at e'
        exact h.aparts j l hjl p2 k k' e e'
      · rw [s] at e'
        have := h.nhi j q2 k e
        have := (hx k' e').1
        omega
    · rw [r] at e
      rcases get l hl with ⟨p, p2, s⟩ | ⟨p, s⟩
      · rw [s] at e'
        have := h.nhi l p2 k' e'
        have := (hx k e).1
        omega
      · omega
theorem NOwn.nil {lo hi : Nat} {w : World} : NOwn lo hi w (.slice none 0 0) [] :=
  ⟨FOwn.nil, fun i h => absurd h (by simp), fun g e => by simp [Value.ownBlock] at e, fun i h => absurd h (by simp), fun i h => absurd h (by simp), fun i j _ h => absurd h (by simp)⟩
/-- A net whose memory is its own: the links' from lo on below mid, the bridges' from mid on below hi. -/
structure NetOwn (lo mid hi : Nat) (w : World) (vB : Value) (Cs : List Bd) (vK : Value) (K : List Lk) : Prop where
  own : NOwn mid hi w vB Cs
  own2 : FOwn lkEnc 4 64 lo w vK K
  khi : ∀ g, vK.ownBlock = some g → g < mid
  lm : lo ≤ mid
  mh : mid ≤ hi
  hs : hi ≤ w.heap.size
theorem NetOwn.keep {lo mid hi : Nat} {w w' : World} {vB : Value} {Cs : List Bd} {vK : Value} {K : List Lk} (h : NetOwn lo mid hi w vB Cs vK K) (k : ∀ g, lo ≤ g → g < hi → w'.heap[g]? = w.heap[g]?) (hs : w.heap.size ≤ w'.heap.size) : NetOwn lo mid hi w' vB Cs vK K :=
  ⟨h.own.keep (fun g h1 h2 => k g (Nat.le_trans h.lm h1) h2), h.own2.keep (fun g e => k g (h.own2.lt g e).1 (Nat.lt_of_lt_of_le (h.khi g e) h.mh)), h.khi, h.lm, h.mh, Nat.le_trans h.hs hs⟩
theorem NetOwn.later {lo mid hi : Nat} {w w' : World} {vB : Value} {Cs : List Bd} {vK : Value} {K : List Lk} (h : NetOwn lo mid hi w vB Cs vK K) (k : Below w.heap.size w w') : NetOwn lo mid hi w' vB Cs vK K :=
  h.keep (fun g _ hg => k.block g (Nat.lt_of_lt_of_le hg h.hs)) k.size
theorem NetOwn.nn {lo mid hi : Nat} {w : World} {adB : Option Addr} {cB : Nat} {Cs : List Bd} {adK : Option Addr} {cK : Nat} {K : List Lk} (h : NetOwn lo mid hi w (.slice adB Cs.length cB) Cs (.slice adK K.length cK) K) (hl : Cs.length ≤ 1048576) (hls : ∀ i, i < Cs.length → (Cs.getD i Bd.nil).L.length ≤ 1048576) (hk : K.length ≤ 1048576) : NN w adB Cs adK K :=
  ⟨h.own.view.2, h.own2.view.2, hl, hls, hk⟩
theorem FOwn.cap_ {X : Type} {enc : X → List Value} {n : Nat} {T : TypeId} {base : Nat} {w : World} {ad : Option Addr} {cap : Nat} {L : List X} (h : FOwn enc n T base w (.slice ad L.length cap) L) : L.length ≤ cap := by
  rcases h.2 with ⟨q, e⟩ | ⟨g, c, cur, q, _, _, hc, _⟩
  · rw [e]; exact Nat.zero_le _
  · simp only [Value.slice.injEq] at q
    rw [q.2.2]
    exact hc

end Go.Proofs.Ytdfjfodfnildiaa
namespace Go.Proofs.Ytdfjfodfnildiaa
open Go.ChangeShapes Go.WideShapes Go.ChangeAt Go.RowKit
open Go.ChangeMaps (open_string shut_string)
set_option linter.unusedVariables false
set_option maxRecDepth 100000

theorem grown_trans {a b c : World} {g : Option Nat} (h : a.grownBy b g) (k : b.grownBy c g) : a.grownBy c g :=
  ⟨k.os.trans h.os, k.tape.trans h.tape, k.output.trans h.output, Nat.le_trans h.size k.size, fun j hj hn => (k.block j (Nat.lt_of_lt_of_le hj h.size) hn).trans (h.block j hj hn)⟩
theorem grown_of {a b : World} {g : Option Nat} (k : Below a.heap.size a b) : a.grownBy b g := ⟨k.os, k.tape, k.output, k.size, fun j hj _ => k.block j hj⟩
theorem grown_set {a b : World} {g o : Nat} (v : Value) (h : a.grownBy b (some g)) : a.grownBy (b.setCell ⟨g, o, none⟩ v) (some g) :=
  ⟨h.os, h.tape, h.output, by simpa using h.size, fun j hj hn => (Below.heap_setCell _ _ _ _ (fun e => hn (by have : j = g := e; rw [this]))).trans (h.block j hj hn)⟩
end Go.Proofs.Ytdfjfodfnildiaa
namespace Go.Proofs.Ytdfjfodfnildiaa
open Go.ChangeShapes Go.WideShapes Go.ChangeAt Go.RowKit
open Go.ChangeMaps (open_string shut_string)
set_option linter.unusedVariables false
set_option maxRecDepth 100000

/-- What NetNew answers. -/
structure NewOut (ids : List Int) (K : List Lk) (ok : Bool) (Cs : List Bd) (KL : List Lk) : Prop where
  yn : ok = true ↔ NewP ids K
  yes : ok = true → dB Cs = netN ids (ofK K) ids.length ∧ KL = K
  no : ok = false → Cs = [] ∧ KL = []
def NewRet (ids : List Int) (K : List Lk) (w : World) (e : Ending) (w' : World) : Prop :=
  ∃ adB cB Cs adL cL KL ok mid, e = .returned (.tuple #[.agg #[.slice adB (List.length Cs) cB, .slice adL (List.length KL) cL], .bool ok]) ∧ NewOut ids K ok Cs KL ∧ NetOwn w.heap.size mid w'.heap.size w' (.slice adB Cs.length cB) Cs (.slice adL KL.length cL) KL ∧ Below w.heap.size w w'
theorem NewRet.no {ids : List Int} {K : List Lk} {w w' : World} (h : ¬ NewP ids K) (b : Below w.heap.size w w') : NewRet ids K w (.returned (.tuple #[.agg #[.slice none 0 0, .slice none 0 0], .bool false])) w' :=
  ⟨none, 0, [], none, 0, [], false, w.heap.size, rfl, ⟨⟨fun q => (by cases q), fun q => absurd q h⟩, fun q => (by cases q), fun _ => ⟨rfl, rfl⟩⟩, ⟨NOwn.nil, FOwn.nil, fun g e => by simp [Value.ownBlock] at e, Nat.le_refl _, b.size, Nat.le_refl _⟩, b⟩
theorem NewRet.yes {ids : List Int} {K : List Lk} {w w' : World} {adB : Option Addr} {cB : Nat} {Cs : List Bd} {adL : Option Addr} {cL mid : Nat} (h : NewP ids K) (d : dB Cs = netN ids (ofK K) ids.length) (o : NetOwn w.heap.size mid w'.heap.size w' (.slice adB Cs.length cB) Cs (.slice adL K.length cL) K) (b : Below w.heap.size w w') : NewRet ids K w (.returned (.tuple #[.agg #[.slice adB Cs.length cB, .slice adL K.length cL], .bool true])) w' :=
  ⟨adB, cB, Cs, adL, cL, K, true, mid, rfl, ⟨⟨fun _ => h, fun _ => rfl⟩, fun _ => ⟨d, rfl⟩, fun q => (by cases q)⟩, o, b⟩
/-- A box of two cells that may be written. -/
structure NeBox (w : World) (q : Nat) (v0 v1 : Value) : Prop where
  at_ : NeAt w q v0 v1
  fr : ∀ i, w.frozen? ⟨q, i, none⟩ = false
theorem NeBox.keep {w w' : World} {q : Nat} {v0 v1 : Value} (h : NeBox w q v0 v1) (k : w'.heap[q]? = w.heap[q]?) : NeBox w' q v0 v1 :=
  ⟨h.at_.keep k, fun i => (World.frozen?_of_block (a := ⟨q, i, none⟩) k).trans (h.fr i)⟩
theorem NeBox.lt {w : World} {q : Nat} {v0 v1 : Value} (h : NeBox w q v0 v1) : q < w.heap.size := h.at_.lt
theorem NeBox.below {w w' : World} {q n : Nat} {v0 v1 : Value} (h : NeBox w q v0 v1) (k : Below n w w') (hq : q < n) : NeBox w' q v0 v1 := h.keep (k.block q hq)
theorem NeBox.later {w w' : World} {q : Nat} {v0 v1 : Value} (h : NeBox w q v0 v1) (k : Below w.heap.size w w') : NeBox w' q v0 v1 := h.below k h.lt
theorem NeBox.new (w : World) (t : TypeId) {v0 v1 : Value} : NeBox (w.alloc (Obj.cells #[v0, v1] t)) w.heap.size v0 v1 := ⟨NeAt.new w t, fun i => by simp [go_sem]⟩
theorem NeBox.put0 {w : World} {q : Nat} {v0 v1 : Value} (h : NeBox w q v0 v1) (v : Value) : NeBox (w.setCell ⟨q, 0, none⟩ v) q v v1 :=
  ⟨⟨pset_same h.at_.c0, (pset_else (by decide)).trans h.at_.c1⟩, fun i => by rw [World.frozen?_setCell]; exact h.fr i⟩
theorem NeBox.put {w : World} {q : Nat} {v0 v1 : Value} (h : NeBox w q v0 v1) (u v : Value) : NeBox ((w.setCell ⟨q, 0, none⟩ u).setCell ⟨q, 1, none⟩ v) q u v := by
  have e1 : (w.setCell ⟨q, 0, none⟩ u).cell? ⟨q, 1, none⟩ = some v1 := (pset_else (by decide)).trans h.at_.c1
  refine ⟨⟨(pset_else (by decide)).trans (pset_same h.at_.c0), pset_same e1⟩, fun i => ?_⟩
  rw [World.frozen?_setCell, World.frozen?_setCell]; exact h.fr i

end Go.Proofs.Ytdfjfodfnildiaa
namespace Go.Proofs.Ytdfjfodfnildiaa
open Go.ChangeShapes Go.WideShapes Go.ChangeAt Go.RowKit
open Go.ChangeMaps (open_string shut_string)
set_option linter.unusedVariables false
set_option maxRecDepth 100000

/-- All blocks but those from lo on below hi are as they were. -/
structure KeptR (lo hi : Nat) (w w' : World) : Prop where
  os : w'.os = w.os
  tape : w'.tape = w.tape
  output : w'.output = w.output
  size : w.heap.size ≤ w'.heap.size
  block : ∀ k, k < w.heap.size → (k < lo ∨ hi ≤ k) → w'.heap[k]? = w.heap[k]?
theorem KeptR.refl (lo hi : Nat) (w : World) : KeptR lo hi w w := ⟨rfl, rfl, rfl, Nat.le_refl _, fun _ _ _ => rfl⟩
theorem KeptR.trans {lo hi : Nat} {a b c : World} (h : KeptR lo hi a b) (k : KeptR lo hi b c) : KeptR lo hi a c :=
  ⟨k.os.trans h.os, k.tape.trans h.tape, k.output.trans h.output, Nat.le_trans h.size k.size, fun j hj hn => (k.block j (Nat.lt_of_lt_of_le hj h.size) hn).trans (h.block j hj hn)⟩
theorem KeptR.below {lo hi : Nat} {a b : World} (h : KeptR lo hi a b) (hs : lo ≤ a.heap.size) : Below lo a b := ⟨h.os, h.tape, h.output, h.size, fun j hj => h.block j (by omega) (.inl hj)⟩
theorem KeptR.of_below {lo hi : Nat} {a b : World} (h : Below a.heap.size a b) : KeptR lo hi a b := ⟨h.os, h.tape, h.output, h.size, fun j hj _ => h.block j hj⟩
theorem KeptR.wide {lo hi lo' hi' : Nat} {a b : World} (h : KeptR lo hi a b) (h1 : lo' ≤ lo) (h2 : hi ≤ hi') : KeptR lo' hi' a b := ⟨h.os, h.tape, h.output, h.size, fun j hj q => h.block j hj (by omega)⟩
theorem KeptR.of_grown {lo hi : Nat} {g : Option Nat} {a b : World} (h : a.grownBy b g) (hg : ∀ k, g = some k → lo ≤ k ∧ k < hi) : KeptR lo hi a b := ⟨h.os, h.tape, h.output, h.size, fun j hj q => h.block j hj (fun e => by have := hg j e.symm; omega)⟩
theorem KeptR.set {lo hi : Nat} {a b : World} (h : KeptR lo hi a b) {g o : Nat} (hg : lo ≤ g ∧ g < hi) (v : Value) : KeptR lo hi a (b.setCell ⟨g, o, none⟩ v) :=
  ⟨h.os, h.tape, h.output, by simpa using h.size, fun j hj hn => (Below.heap_setCell _ _ _ _ (fun e => by have : j = g := e; omega)).trans (h.block j hj hn)⟩
/-- How many marks the first j take. -/
def kTo (Bs : List Bd) : Nat → Nat
  | 0 => 0
  | j + 1 => kTo Bs j + 1 + 11 * (Bs.getD j Bd.nil).L.length
theorem kTo_lTo (Bs : List Bd) : ∀ j, kTo Bs j = j + 11 * lTo Bs j
  | 0 => rfl
  | j + 1 => by
    show kTo Bs j + 1 + _ = j + 1 + 11 * (lTo Bs j + _)
    rw [kTo_lTo Bs j]
    omega
theorem kTo_mono (Bs : List Bd) {i j : Nat} (h : i ≤ j) : kTo Bs i ≤ kTo Bs j := by
  induction h with
  | refl => exact Nat.le_refl _
  | step _ ih => exact Nat.le_trans ih (by show _ ≤ kTo Bs _ + 1 + _; omega)
/-- One of them, marked. -/
def mkd (Bs : List Bd) (k0 : Int) (j : Nat) : Bd := ⟨k0 + (kTo Bs j : Int), (Bs.getD j Bd.nil).ad, (Bs.getD j Bd.nil).cap, (List.range (Bs.getD j Bd.nil).L.length).map (ptMk (k0 + (kTo Bs j : Int) + 1))⟩
/-- The first n marked. -/
def marksN (Bs : List Bd) (k0 : Int) (n : Nat) : List Bd := (List.range Bs.length).map fun j => if j < n then mkd Bs k0 j else Bs.getD j Bd.nil
theorem marksN_len (Bs : List Bd) (k0 : Int) (n : Nat) : (marksN Bs k0 n).length = Bs.length := by simp [marksN]
theorem marksN_get (Bs : List Bd) (k0 : Int) (n : Nat) {j : Nat} (h : j < Bs.length) : (marksN Bs k0 n).getD j Bd.nil = if j < n then mkd Bs k0 j else Bs.getD j Bd.nil := by simp [marksN, List.getD, h]
theorem marksN_zero (Bs : List Bd) (k0 : Int) : marksN Bs k0 0 = Bs := by
  refine List.ext_getElem (by simp [marksN]) fun i h1 h2 => ?_
  simp [marksN, List.getD, h2]
theorem marksN_succ (Bs : List Bd) (k0 : Int) {n : Nat} (h : n < Bs.length) : (marksN Bs k0 n).set n (mkd Bs k0 n) = marksN Bs k0 (n + 1) := by
  refine List.ext_getElem (by simp [marksN]) fun i h1 h2 => ?_
  have hi : i < Bs.length := by simpa [marksN] using h2
  rw [List.getElem_set]
  simp only [marksN, List.getElem_map, List.getElem_range]
  by_cases e : n = i
  · subst e
    rw [if_pos rfl, if_pos (by omega)]
  · rw [if_neg e]
    by_cases q : i < n
    · rw [if_pos q, if_pos (by omega)]
    · rw [if_neg q, if_neg (by omega)]
theorem mkd_v (Bs : List Bd) (k0 : Int) (j : Nat) : (mkd Bs k0 j).v = (Bs.getD j Bd.nil).v := by
  unfold mkd Bd.v
  simp
theorem marksN_v (Bs : List Bd) (k0 : Int) (n : Nat) {j : Nat} (h : j < Bs.length) : ((marksN Bs k0 n).getD j Bd.nil).v = (Bs.getD j Bd.nil).v := by
  rw [marksN_get _ _ _ h]
  split
  · exact mkd_v Bs k0 j
  · rfl
theorem row_id {g : Nat} {cap lo : Nat} {w : World} {Ms : List Bd} {n : Nat} (hn : n < Ms.length) (h : FOwn bdEnc 2 71 lo w (.slice (some ⟨g, 0, none⟩) Ms.length cap) Ms) {x : Bd} (hv : x.v = (Ms.getD n Bd.nil).v) : FOwn bdEnc 2 71 lo (w.setCell ⟨g, n * 2, none⟩ (.int .i64 x.id)) (.slice (some ⟨g, 0, none⟩) (Ms.set n x).length cap) (Ms.set n x) := by
  have hs := (World.ownsRow.stored (show w.ownsRow lo 71 2 _ Ms.length (fcells bdEnc Ms) from h) (n * 2) (.int .i64 x.id)).1
  have e : (fcells bdEnc Ms).set (n * 2) (.int .i64 x.id) = fcells bdEnc (Ms.set n x) := by
    rw [← setAll_cells bdEnc_len (by omega) Bd.nil Ms n hn x]
    show _ = ((fcells bdEnc Ms).set (n * 2) (.int .i64 x.id)).set (n * 2 + 1) (.slice x.ad x.L.length x.cap)
    have hl := fcells_len bdEnc_len Ms
    have hc : (fcells bdEnc Ms)[n * 2 + 1]? = some (.slice x.ad x.L.length x.cap) := by
      rw [fcells_at bdEnc_len Bd.nil Ms n 1 hn (by omega)]
      show some (Ms.getD n Bd.nil).v = some x.v
      rw [hv]
    apply List.ext_getElem?
    intro j
    by_cases q : j = n * 2 + 1
    · subst q
      rw [List.getElem?_set_ne (by omega), hc, List.getElem?_set_self (by rw [List.length_set, hl]; omega)]
    · rw [List.getElem?_set_ne (Ne.symm q)]
  rw [e] at hs
  unfold FOwn
  rw [List.length_set]
  exact hs
theorem NOwn.mark {lo hi : Nat} {g cap : Nat} {w w2 : World} {Ms : List Bd} {n : Nat} (h : NOwn lo hi w (.slice (some ⟨g, 0, none⟩) Ms.length cap) Ms) (hs : hi ≤ w.heap.size) (hn : n < Ms.length) {x : Bd} (hv : x.v = (Ms.getD n Bd.nil).v)
    (o2 : FOwn ptEnc 11 68 lo w2 x.v x.L) (gr : (w.setCell ⟨g, n * 2, none⟩ (.int .i64 x.id)).grownBy w2 x.v.ownBlock) : NOwn lo hi w2 (.slice (some ⟨g, 0, none⟩) (Ms.set n x).length cap) (Ms.set n x) ∧ KeptR lo hi w w2 := by
  have hgl := h.row.lt g rfl
  have hgh := h.rhi g rfl
  have hxb : ∀ k, x.v.ownBlock = some k → lo ≤ k ∧ k < hi ∧ k ≠ g := fun k e => by
    rw [hv] at e
    exact ⟨((h.nest n hn).lt k e).1, h.nhi n hn k e, fun q => h.apart n hn g k rfl e q.symm⟩
  have bl : ∀ k, k < w.heap.size → k ≠ g → (∀ q, x.v.ownBlock = some q → q ≠ k) → w2.heap[k]? = w.heap[k]? := fun k hk h1 h2 => (gr.block k (by simpa using hk) (fun e => h2 k e.symm rfl)).trans (Below.heap_setCell _ _ _ _ h1)
  have get : ∀ j, j < (Ms.set n x).length → (j ≠ n ∧ j < Ms.length ∧ (Ms.set n x).getD j Bd.nil = Ms.getD j Bd.nil) ∨ (j = n ∧ (Ms.set n x).getD j Bd.nil = x) := fun j hj => by
    rw [List.length_set] at hj
    by_cases e : j = n
    · subst e
      exact .inr ⟨rfl, by simp [List.getD, hj]⟩
    · exact .inl ⟨e, hj, by simp [List.getD, List.getElem?_set_ne (Ne.symm e)]⟩
  have gv : ∀ j, j < (Ms.set n x).length → j < Ms.length ∧ ((Ms.set n x).getD j Bd.nil).v = (Ms.getD j Bd.nil).v := fun j hj => by
    rcases get j hj with ⟨_, q, r⟩ | ⟨q, r⟩
    · exact ⟨q, by rw [r]⟩
    · exact ⟨by rw [q]; exact hn, by rw [r, hv, q]⟩
  refine ⟨⟨?_, fun j hj => ?_, fun k e => h.rhi k e, fun j hj k e => ?_, fun j hj k k' e e' => ?_, fun i j hij hj k k' e e' => ?_⟩, ?_⟩
  · refine (row_id hn h.row hv).keep (fun k e => ?_)
    obtain rfl : g = k := by simpa [Value.ownBlock] using e
    exact gr.block g (by simpa using hgl.2) (fun e => (hxb g e.symm).2.2 rfl)
  · rcases get j hj with ⟨q, q2, r⟩ | ⟨q, r⟩
    · rw [r]
      refine (h.nest j q2).keep (fun k e => bl k ((h.nest j q2).lt k e).2 (fun q3 => h.apart j q2 g k rfl e q3.symm) (fun p hp hq => ?_))
      rw [hv] at hp
      rcases Nat.lt_or_gt_of_ne q with q4 | q4
      · exact h.aparts j n q4 hn k p e hp hq.symm
      · exact h.aparts n j q4 q2 p k hp e hq
    · rw [r]
      exact o2
  · obtain ⟨q, r⟩ := gv j hj
    rw [r] at e
    exact h.nhi j q k e
  · obtain ⟨q, r⟩ := gv j hj
    rw [r] at e'
    exact h.apart j q k k' e e'
  · obtain ⟨q, r⟩ := gv j hj
    obtain ⟨q2, r2⟩ := gv i (by omega)
    rw [r] at e'
    rw [r2] at e
    exact h.aparts i j hij q k k' e e'
  · refine KeptR.trans ((KeptR.refl lo hi w).set ⟨hgl.1, hgh⟩ _) (KeptR.of_grown gr (fun k e => ⟨(hxb k e).1, (hxb k e).2.1⟩))
set_option maxHeartbeats 4000000 in
theorem bdMark (ad : Option Addr) (cap : Nat) (Bs : List Bd) (k0 : Int) (lo hi : Nat) (w : World) (h : NOwn lo hi w (.slice ad Bs.length cap) Bs) (hs : hi ≤ w.heap.size) (hl : Bs.length ≤ 100) (hls : ∀ i, i < Bs.length → (Bs.getD i Bd.nil).L.length ≤ 100) (hk0 : 0 ≤ k0) (hk1 : k0 ≤ 100000000) :
    Calls Try.prog 60 #[.slice ad Bs.length cap, .int .i64 k0] w fun e w' => e = .returned (.int .i64 (k0 + (kTo Bs Bs.length : Int))) ∧ NOwn lo hi w' (.slice ad Bs.length cap) (marksN Bs k0 Bs.length) ∧ KeptR lo hi w w' := by
  by_cases hz : Bs.length = 0
  · obtain rfl : Bs = [] := List.eq_nil_of_length_eq_zero hz
    go_enter Try.func60, Try.ntmps60
    go_wp2
    refine wp_loop_rounds 1 ?_; rw [rounds_succ]
    go_wp2
    go_ret
    exact ⟨by simp [kTo], by first | (rw [marksN_zero]; exact h) | exact h, KeptR.refl _ _ _⟩
  obtain ⟨g, rfl⟩ : ∃ g, ad = some ⟨g, 0, none⟩ := by
    rcases h.row.2 with ⟨_, q⟩ | ⟨g, cap, cur, q, _⟩
    · omega
    · simp only [Value.slice.injEq] at q
      exact ⟨g, q.1⟩
  have hkb : ∀ j, j ≤ Bs.length → kTo Bs j ≤ 200000 := fun j hj => by
    have h1 : ∀ i, i ≤ Bs.length → lTo Bs i ≤ 100 * i := by
      intro i
      induction i with
      | zero => intro _; exact Nat.le_refl _
      | succ i ih =>
        intro hi
        have := ih (by omega)
        have := hls i (by omega)
        show lTo Bs i + _ ≤ _
        omega
    have := h1 j hj
    rw [kTo_lTo]
    omega
  have M0 : NOwn lo hi w (.slice (some ⟨g, 0, none⟩) Bs.length cap) (marksN Bs k0 0) := by rw [marksN_zero]; exact h
  clear h hz
  go_enter Try.func60, Try.ntmps60
  go_wp2
  go_loopw [1, 5] (fun q i wr => ∃ (k : Nat) (x : Int), k ≤ Bs.length ∧ i = .int .i64 k ∧ q = .int .i64 x ∧ Hid (x = k0 + (kTo Bs k : Int)) ∧ NOwn lo hi wr (.slice (some ⟨g, 0, none⟩) Bs.length cap) (marksN Bs k0 k) ∧ KeptR lo hi w wr) (fun _ i _ => Bs.length - (intOf i).toNat)
  case atStart => exact ⟨0, k0, Nat.zero_le _, rfl, rfl, by unfold Hid; simp [kTo], M0, KeptR.refl _ _ _⟩
  case round =>
    obtain ⟨k, x, hk, rfl, rfl, hx, M, KR⟩ := hrel
    clear M0
    by_cases hlt : k < Bs.length
    · have hx0 : 0 ≤ x := by have := hx.out; omega
      have hx1 : x ≤ 100200000 := by have := hx.out; have := hkb k (by omega); omega
      have hlk := hls k hlt
      have hb3 : Hid (kTo Bs (k + 1) = kTo Bs k + 1 + 11 * (Bs.getD k Bd.nil).L.length) := rfl
      have hml : Hid ((marksN Bs k0 k).length = Bs.length) := marksN_len _ _ _
      have hck := M.view.2.at_ (i := k) (by rw [hml.out]; exact hlt)
      have hnk := M.nest k (by rw [hml.out]; exact hlt)
      rw [marksN_get Bs k0 k hlt, if_neg (by omega)] at hck hnk
      have M' : NOwn lo hi wr (.slice (some ⟨g, 0, none⟩) (marksN Bs k0 k).length cap) (marksN Bs k0 k) := by rw [hml.out]; exact M
      have hfz := M'.row.frozen (k * 2)
      have hsz : hi ≤ wr.heap.size := Nat.le_trans hs KR.size
      have hmv : Hid ((mkd Bs k0 k).v = ((marksN Bs k0 k).getD k Bd.nil).v) := by unfold Hid; rw [mkd_v, marksN_v _ _ _ hlt]
      have hgap := fun q => M.apart k (by rw [hml.out]; exact hlt) g q rfl
      rw [marksN_v _ _ _ hlt] at hgap
      have st := fun (w2 : World) => M'.mark (w2 := w2) (n := k) hsz (by rw [hml.out]; exact hlt) (x := mkd Bs k0 k) hmv.out
      rw [mkd_v, marksN_succ Bs k0 hlt] at st
      simp only [marksN_len] at st
      have hmi : (mkd Bs k0 k).id = x := hx.out.symm
      have hmL : (mkd Bs k0 k).L = (List.range (Bs.getD k Bd.nil).L.length).map (ptMk (x + 1)) := by unfold mkd; rw [hx.out]
      rw [hmi, hmL] at st
      obtain ⟨⟨id, a1, c1, L1⟩, hh⟩ : ∃ m, Bs.getD k Bd.nil = m := ⟨_, rfl⟩
      rw [hh] at hck hnk hlk hgap hb3
      simp only [hh] at st
      unfold Bd.v at hnk hgap st
      dsimp only at hnk hlk hgap st
      obtain ⟨c0, c1_⟩ := hck
      rw [Nat.zero_add] at c0 c1_
      dsimp only at c0 c1_
      have c1' : (wr.setCell ⟨g, k * 2, none⟩ (.int .i64 x)).cell? ⟨g, k * 2 + 1, none⟩ = some (.slice a1 L1.length c1) := (pset_else (by simp)).trans c1_
      have hn1 : FOwn ptEnc 11 68 lo (wr.setCell ⟨g, k * 2, none⟩ (.int .i64 x)) (.slice a1 L1.length c1) L1 := hnk.keep (fun j e => Below.heap_setCell _ _ _ _ (fun q => hgap j e q.symm))
      clear hh M M' hnk hgap hmi hmL hmv
      go_wp2_with fail
      go_at_call 85
      refine (ptMark a1 c1 (x + 1) lo L1 _ hn1 (by omega) (by omega) (by omega)).mono ?_
      rintro e w2 ⟨rfl, o2, gr⟩
      obtain ⟨M1, K1⟩ := st w2 o2 gr
      clear st o2 gr hn1
      go_wp2
      go_roundw
      case rel => exact ⟨k + 1, x + 1 + 11 * (L1.length : Int), by omega, by go_num, rfl, by have := hx.out; have := hb3.out; unfold Hid; omega, M1, KR.trans K1⟩
      case measure => simp [intOf]; omega
    · obtain rfl : k = Bs.length := by omega
      go_wp2
      go_ret
      exact ⟨by rw [← hx.out]; rfl, M, KR⟩
end Go.Proofs.Ytdfjfodfnildiaa
namespace Go.Proofs.Ytdfjfodfnildiaa
open Go.ChangeShapes Go.WideShapes Go.ChangeAt Go.RowKit
open Go.ChangeMaps (open_string shut_string)
set_option linter.unusedVariables false
set_option maxRecDepth 100000

/-- The marks that the law lays upon one, from s on. -/
def lkMk (s : Int) (i : Nat) : Lk := ⟨(s + 4 * (i : Int)), (s + 4 * (i : Int)) + 1, (s + 4 * (i : Int)) + 1 + 1, (s + 4 * (i : Int)) + 1 + 1 + 1⟩
set_option maxHeartbeats 4000000 in
theorem lkMark (ad : Option Addr) (cap : Nat) (s : Int) (base : Nat) (L : List Lk) (w : World) (hr : FOwn lkEnc 4 64 base w (.slice ad L.length cap) L) (hl : L.length ≤ 1048576) (s0 : 0 ≤ s) (s1 : s ≤ 1000000000000) :
    Calls Try.prog 61 #[.slice ad L.length cap, .int .i64 s] w fun e w' => e = .returned (.int .i64 (s + 4 * (L.length : Int))) ∧ FOwn lkEnc 4 64 base w' (.slice ad L.length cap) ((List.range L.length).map (lkMk s)) ∧ w.grownBy w' (Value.slice ad L.length cap).ownBlock := by
  by_cases hz : L.length = 0
  · obtain rfl : L = [] := List.eq_nil_of_length_eq_zero hz
    go_enter Try.func61, Try.ntmps61
    go_wp2
    refine wp_loop_rounds 1 ?_; rw [rounds_succ]
    go_wp2
    go_ret
    exact ⟨by simp, hr, ⟨rfl, rfl, rfl, Nat.le_refl _, fun _ _ _ => rfl⟩⟩
  obtain ⟨g, rfl⟩ : ∃ g, ad = some ⟨g, 0, none⟩ := by
    rcases hr.2 with ⟨_, q⟩ | ⟨g, cap, cur, q, _⟩
    · omega
    · simp only [Value.slice.injEq] at q
      exact ⟨g, q.1⟩
  have M0 : FOwn lkEnc 4 64 base w (.slice (some ⟨g, 0, none⟩) L.length cap) (markd (lkMk s) L 0) := by rw [markd_zero]; exact hr
  have g0 : w.grownBy w (some g) := ⟨rfl, rfl, rfl, Nat.le_refl _, fun _ _ _ => rfl⟩
  clear hr hz
  go_enter Try.func61, Try.ntmps61
  go_wp2
  go_loopw [1, 5] (fun q i wr => ∃ k : Nat, k ≤ L.length ∧ i = .int .i64 k ∧ q = .int .i64 (s + 4 * (k : Int)) ∧ FOwn lkEnc 4 64 base wr (.slice (some ⟨g, 0, none⟩) L.length cap) (markd (lkMk s) L k) ∧ w.grownBy wr (some g)) (fun _ i _ => L.length - (intOf i).toNat)
  case atStart => exact ⟨0, Nat.zero_le _, rfl, by simp, M0, g0⟩
  case round =>
    obtain ⟨k, hk, rfl, rfl, M, gr⟩ := hrel
    clear M0 g0
    have hml := markd_len (mk := lkMk s) hk
    by_cases hlt : k < L.length
    · rw [← hml] at M
      have hk2 : k < (markd (lkMk s) L k).length := by rw [hml]; exact hlt
      obtain ⟨h, hh⟩ : ∃ h, (markd (lkMk s) L k).getD k Lk.nil = h := ⟨_, rfl⟩
      have hck : LkAtO wr g (k * 4) h := by
        rw [← hh]
        exact lkAtO_of (M.cell lkEnc_len Lk.nil hk2)
      have ff := M.frozen
      have f0 := ff (k * 4)
      have f1 := ff (k * 4 + 1)
      have f2 := ff (k * 4 + 2)
      have f3 := ff (k * 4 + 3)
      have M1 := M.set lkEnc_len (by omega) hk2 (lkMk s k)
      rw [markd_set hlt, lkPut, hml] at M1
      have G1 := grown_putAll (lkEnc (lkMk s k)) (k * 4) gr
      rw [lkPut] at G1
      unfold lkMk at M1 G1
      dsimp only at M1 G1
      clear M gr ff hh hml hk2
      obtain ⟨c0, c1, c2, c3⟩ := hck
      generalize hK : s + 4 * (k : Int) = K at M1 G1 ⊢
      have K0 : 0 ≤ K := by omega
      have K1 : K ≤ 1100000000000 := by omega
      replace hK : Hid _ := hK
      go_wp2
      go_roundw
      case rel => exact ⟨k + 1, by omega, by go_num, by have := hK.out; go_num, M1, G1⟩
      case measure => simp [intOf]; omega
    · obtain rfl : k = L.length := by omega
      rw [markd_all] at M
      go_wp2
      go_ret
      exact ⟨rfl, M, gr⟩
end Go.Proofs.Ytdfjfodfnildiaa
namespace Go.Proofs.Ytdfjfodfnildiaa
open Go.ChangeShapes Go.WideShapes Go.ChangeAt Go.RowKit
open Go.ChangeMaps (open_string shut_string)
set_option linter.unusedVariables false
set_option maxRecDepth 100000

theorem NewOut.small {ids : List Int} {K : List Lk} {ok : Bool} {Cs : List Bd} {KL : List Lk} (h : NewOut ids K ok Cs KL) : Cs.length ≤ 5 ∧ (∀ i, i < Cs.length → (Cs.getD i Bd.nil).L.length ≤ 4) ∧ KL.length ≤ K.length := by
  cases ok with
  | true =>
    obtain ⟨d, rfl⟩ := h.yes rfl
    have hl : Cs.length = ids.length := by
      have := congrArg List.length d
      rw [netN_len] at this
      simpa [dB] using this
    refine ⟨by rw [hl]; exact (h.yn.1 rfl).1, fun i hi => ?_, Nat.le_refl _⟩
    have := congrArg (fun D => D.getD i Bg.nil) d
    simp only [bd_get] at this
    rw [netN_get _ _ (by omega)] at this
    have e : (Cs.getD i Bd.nil).L = (newBg (ids.getD i 0) (ofK KL i)).L := congrArg Bg.L this
    rw [e]
    exact newBg_len _ _
  | false =>
    obtain ⟨rfl, rfl⟩ := h.no rfl
    exact ⟨by simp, fun i hi => absurd hi (by simp), by simp⟩
theorem NewOut.same {ids : List Int} {K : List Lk} {ok ok' : Bool} {Cs Cs' : List Bd} {KL KL' : List Lk} (h : NewOut ids K ok Cs KL) (h' : NewOut ids K ok' Cs' KL') : ok' = ok ∧ Cs'.map Bd.d = Cs.map Bd.d ∧ KL' = KL := by
  have e : ok' = ok := Bool.eq_iff_iff.2 (h'.yn.trans h.yn.symm)
  subst e
  cases ok' with
  | true => exact ⟨rfl, (h'.yes rfl).1.trans (h.yes rfl).1.symm, (h'.yes rfl).2.trans (h.yes rfl).2.symm⟩
  | false => exact ⟨rfl, by rw [(h'.no rfl).1, (h.no rfl).1], (h'.no rfl).2.trans (h.no rfl).2.symm⟩
set_option maxHeartbeats 2000000 in
theorem netMark (adB : Option Addr) (cB : Nat) (Cs : List Bd) (adL : Option Addr) (cL : Nat) (K : List Lk) (k0 : Int) (lo mid hi : Nat) (w : World) (h : NetOwn lo mid hi w (.slice adB Cs.length cB) Cs (.slice adL K.length cL) K) (hl : Cs.length ≤ 100) (hls : ∀ i, i < Cs.length → (Cs.getD i Bd.nil).L.length ≤ 100) (hk : K.length ≤ 1048576) (hk0 : 0 ≤ k0) (hk1 : k0 ≤ 100000000) :
    Calls Try.prog 33 #[.agg #[.slice adB Cs.length cB, .slice adL K.length cL], .int .i64 k0] w fun e w' => e = .returned (.int .i64 (k0 + (kTo Cs Cs.length : Int) + 4 * (K.length : Int))) ∧ NetOwn lo mid hi w' (.slice adB Cs.length cB) (marksN Cs k0 Cs.length) (.slice adL K.length cL) ((List.range K.length).map (lkMk (k0 + (kTo Cs Cs.length : Int)))) ∧ KeptR lo hi w w' := by
  have hkb : (kTo Cs Cs.length : Int) ≤ 200000 := by
    have h1 : ∀ i, i ≤ Cs.length → lTo Cs i ≤ 100 * i := by
      intro i
      induction i with
      | zero => intro _; exact Nat.le_refl _
      | succ i ih =>
        intro hi
        have := ih (by omega)
        have := hls i (by omega)
        show lTo Cs i + _ ≤ _
        omega
    have := h1 Cs.length (Nat.le_refl _)
    rw [kTo_lTo]
    omega
  obtain ⟨y, hy⟩ : ∃ y, y = w.alloc (Obj.cells #[.slice adB Cs.length cB, .slice adL K.length cL] 27) := ⟨_, rfl⟩
  have k0y : Below w.heap.size w y := by rw [hy]; exact below_new _
  have A0 : NeAt y w.heap.size (.slice adB Cs.length cB) (.slice adL K.length cL) := by rw [hy]; exact NeAt.new w _
  have hy' := h.later k0y
  have hhs := h.hs
  have hlm := h.lm
  have hmh := h.mh
  obtain ⟨s, hs⟩ : ∃ s, s = k0 + (kTo Cs Cs.length : Int) := ⟨_, rfl⟩
  rw [← hs]
  have s0 : 0 ≤ s := by omega
  have s1 : s ≤ 100200000 := by omega
  replace hs : Hid _ := hs
  go_enter Try.func33, Try.ntmps33
  go_wp2_with fail
  go_at_call 60
  rw [← hy]
  clear hy
  refine (bdMark adB cB Cs k0 mid hi y hy'.own hy'.hs hl hls hk0 hk1).mono ?_
  rintro e w1 ⟨rfl, o1, kr1⟩
  rw [← hs.out]
  have A1 := A0.keep (kr1.block _ A0.lt (.inr (by omega)))
  have o2 : FOwn lkEnc 4 64 lo w1 (.slice adL K.length cL) K := hy'.own2.keep (fun g e => kr1.block g (hy'.own2.lt g e).2 (.inl (h.khi g e)))
  have hz1 := kr1.size
  have hz0 := k0y.size
  clear A0
  obtain ⟨a0, a1⟩ := A1
  go_wp2_with fail
  go_at_call 61
  refine (lkMark adL cL s lo K w1 o2 hk s0 (by omega)).mono ?_
  rintro e w2 ⟨rfl, o3, gr⟩
  have hkl : ∀ g, (Value.slice adL K.length cL).ownBlock = some g → lo ≤ g ∧ g < mid := fun g e => ⟨(o2.lt g e).1, h.khi g e⟩
  have hz2 := gr.size
  have N2 : NetOwn lo mid hi w2 (.slice adB Cs.length cB) (marksN Cs k0 Cs.length) (.slice adL K.length cL) ((List.range K.length).map (lkMk s)) :=
    ⟨o1.keep (fun g h1 h2 => gr.block g (by omega) (fun e => by have := hkl g e.symm; omega)), o3, h.khi, hlm, hmh, by omega⟩
  have KR : KeptR lo hi w w2 := ((KeptR.of_below k0y).trans (kr1.wide hlm (Nat.le_refl _))).trans (KeptR.of_grown gr (fun k e => by have := hkl k e; omega))
  clear gr o3 o1 kr1 o2
  go_wp2
  go_ret
  exact ⟨rfl, N2, KR⟩
end Go.Proofs.Ytdfjfodfnildiaa
namespace Go.Proofs.Ytdfjfodfnildiaa
open Go.ChangeShapes Go.WideShapes Go.ChangeAt Go.RowKit
open Go.ChangeMaps (open_string shut_string)
set_option linter.unusedVariables false
set_option maxRecDepth 100000

theorem Try.info5' : (Try.prog.info? 5).map (fun i => (i.zero, i.size, i.bytes)) = some (some (.int .u8 0), 1, 1) := by kernel_rfl
/-- What a loop that fills the block B has done behind k rounds. -/
def Filled (B len : Nat) (f : Nat → Int) (k : Nat) (w wr : World) : Prop :=
  Below B w wr ∧ B < wr.heap.size ∧ (∀ j, j < len → ∃ u, wr.cell? ⟨B, j, none⟩ = some u) ∧ (∀ j, j < len → wr.frozen? ⟨B, j, none⟩ = false) ∧ ∀ j, j < k → wr.cell? ⟨B, j, none⟩ = some (.int .u8 (f j))
theorem Filled.step {B len : Nat} {f : Nat → Int} {k : Nat} {w wr : World} (h : Filled B len f k w wr) (hk : k < len) : Filled B len f (k + 1) w (wr.setCell ⟨B, k, none⟩ (.int .u8 (f k))) := by
  obtain ⟨h1, h2, h3, h4, h5⟩ := h
  refine ⟨h1.setCell (Nat.le_refl _) _, by simpa using h2, ?_, ?_, ?_⟩
  · intro j hj
    exact cell?_setCell_some (h3 j hj).choose_spec
  · intro j hj
    simpa using h4 j hj
  · intro j hj
    by_cases e : j = k
    · subst e
      exact cell_set_same (h3 j hk)
    · rw [cell_set_ne e]
      exact h5 j (by omega)

theorem filled_made {w w1 : World} {len : Nat} {f : Nat → Int} {xs : List Value} (hown : w1.ownsRow w.heap.size 5 1 (.slice (some ⟨w.heap.size, 0, none⟩) len len) len xs) (hgrow : w.grownBy w1 none) : Filled w.heap.size len f 0 w w1 := by
  refine ⟨(Below.refl _ _).grown hgrow (Nat.le_refl _) (by simp), ?_, ?_, ?_, fun j hj => by omega⟩
  · rcases hown.2 with ⟨h, _⟩ | ⟨g, cap, cur, h, _, hg, _⟩
    · simp at h
    · simp only [Value.slice.injEq, Option.some.injEq, Addr.mk.injEq, and_true, true_and] at h
      obtain ⟨rfl, _⟩ := h
      exact (Array.getElem?_eq_some_iff.1 hg).1
  · intro j hj
    have hx := hown.1
    rw [hown.cellAt j (by omega)]
    exact ⟨xs[j]'(by omega), List.getElem?_eq_getElem (by omega)⟩
  · intro j hj
    exact hown.frozenAt j

/-- What markByteS has done behind k rounds, at a row at (b, off). -/
def Marked (b off len : Nat) (m : Int) (k : Nat) (w wr : World) : Prop :=
  w.grownBy wr (some b) ∧ (∀ j, j < len → (∃ u, wr.cell? ⟨b, off + j, none⟩ = some u) ∧ wr.frozen? ⟨b, off + j, none⟩ = false) ∧ ∀ j, j < k → wr.cell? ⟨b, off + j, none⟩ = some (.int .u8 ((m + j) % 256))
theorem Marked.step {b off len : Nat} {m : Int} {k : Nat} {w wr : World} (h : Marked b off len m k w wr) (hk : k < len) : Marked b off len m (k + 1) w (wr.setCell ⟨b, off + k, none⟩ (.int .u8 ((m + k) % 256))) := by
  obtain ⟨h1, h2, h3⟩ := h
  refine ⟨⟨h1.os, h1.tape, h1.output, by simpa using h1.size, fun j hj hne => ?_⟩, fun j hj => ⟨?_, ?_⟩, fun j hj => ?_⟩
  · rw [Below.heap_setCell _ _ _ _ (fun e => hne (by rw [e]))]
    exact h1.block j hj hne
  · exact cell?_setCell_some (h2 j hj).1.choose_spec
  · simpa using (h2 j hj).2
  · by_cases e : j = k
    · subst e
      exact cell_set_same (h2 j hk).1
    · rw [cell_set_ne (by omega)]
      exact h3 j (by omega)

theorem mark_below {w w' : World} {ad : Option Addr} {len B : Nat} {n : Nat} (h : w' = w.drewN n ∨ ∃ a, ad = some a ∧ 0 < len ∧ (w.drewN n).grownBy w' (some a.block)) (hB : ∀ a, ad = some a → B ≤ a.block) (hs : B ≤ w.heap.size) : Below B w w' := by
  rcases h with rfl | ⟨a, e, _, hg⟩
  · exact below_drewN (Below.refl _ _) n
  · refine (below_drewN (Below.refl _ _) n).trans ⟨hg.os, hg.tape, hg.output, hg.size, fun k hk => ?_⟩
    exact hg.block k (Nat.lt_of_lt_of_le hk hs) (by have := hB a e; simp; omega)


end Go.Proofs.Ytdfjfodfnildiaa
namespace Go.Proofs.Ytdfjfodfnildiaa
open Go.ChangeShapes Go.WideShapes Go.ChangeAt Go.RowKit
open Go.ChangeMaps (open_string shut_string)
set_option linter.unusedVariables false
set_option maxRecDepth 100000

theorem ViewI.mk0 {w : World} {b len : Nat} {f : Nat → Int} (h : ∀ i, i < len → w.cell? ⟨b, i, none⟩ = some (.int .i64 (f i))) : ViewI w (some ⟨b, 0, none⟩) len f :=
  fun _ => ⟨b, 0, rfl, fun i hi => by rw [Nat.zero_add]; exact h i hi⟩
theorem ViewI.congr {w : World} {ad : Option Addr} {len : Nat} {f g : Nat → Int} (h : ViewI w ad len f) (e : ∀ i, i < len → f i = g i) : ViewI w ad len g :=
  fun hp => by
    obtain ⟨b, off, e', hc⟩ := h hp
    exact ⟨b, off, e', fun i hi => by rw [← e i hi]; exact hc i hi⟩
set_option maxHeartbeats 400000 in
theorem eqInts (ad ad' : Option Addr) (len cap cap' : Nat) (f : Nat → Int) (w : World) (hv : ViewI w ad len f) (hv' : ViewI w ad' len f) (hl : len ≤ 1048576) :
    Calls Try.prog 32 #[.slice ad len cap, .slice ad' len cap'] w fun e w' => e = .returned (.bool true) ∧ ∃ n, w' = w.drewN n := by
  go_enter Try.func32, Try.ntmps32
  go_wp2
  go_loopw [5] (fun i wr => ∃ k n : Nat, k ≤ len ∧ i = .int .i64 k ∧ wr = w.drewN n) (fun i _ => len - (intOf i).toNat)
  case atStart => exact ⟨0, 0, Nat.zero_le _, rfl, rfl⟩
  case round =>
    obtain ⟨k, n, hk, rfl, rfl⟩ := hrel
    by_cases hlt : k < len
    · obtain ⟨b, off, rfl, hc⟩ := hv (by omega)
      obtain ⟨b', off', rfl, hc'⟩ := hv' (by omega)
      have hck := hc k hlt
      have hck' := hc' k hlt
      go_wp2
      go_quiet (fail)
      go_wp2
      go_roundw
      case rel => exact ⟨k + 1, _, by omega, by go_num, rfl⟩
      case measure => simp [intOf]; omega
    · obtain rfl : k = len := by omega
      go_wp2
      go_ret
      exact ⟨rfl, _, rfl⟩
theorem Try.infoI' : (Try.prog.info? 3).map (fun i => (i.zero, i.size, i.bytes)) = some (some (.int .i64 0), 1, 8) := by kernel_rfl
/-- What a loop that fills the block B has done behind k rounds. -/
def FilledI (B len : Nat) (f : Nat → Int) (k : Nat) (w wr : World) : Prop :=
  Below B w wr ∧ B < wr.heap.size ∧ (∀ j, j < len → ∃ u, wr.cell? ⟨B, j, none⟩ = some u) ∧ (∀ j, j < len → wr.frozen? ⟨B, j, none⟩ = false) ∧ ∀ j, j < k → wr.cell? ⟨B, j, none⟩ = some (.int .i64 (f j))
theorem FilledI.step {B len : Nat} {f : Nat → Int} {k : Nat} {w wr : World} (h : FilledI B len f k w wr) (hk : k < len) : FilledI B len f (k + 1) w (wr.setCell ⟨B, k, none⟩ (.int .i64 (f k))) := by
  obtain ⟨h1, h2, h3, h4, h5⟩ := h
  refine ⟨h1.setCell (Nat.le_refl _) _, by simpa using h2, ?_, ?_, ?_⟩
  · intro j hj
    exact cell?_setCell_some (h3 j hj).choose_spec
  · intro j hj
    simpa using h4 j hj
  · intro j hj
    by_cases e : j = k
    · subst e
      exact cell_set_same (h3 j hk)
    · rw [cell_set_ne e]
      exact h5 j (by omega)

theorem filledI_made {w w1 : World} {len : Nat} {f : Nat → Int} {xs : List Value} (hown : w1.ownsRow w.heap.size 3 1 (.slice (some ⟨w.heap.size, 0, none⟩) len len) len xs) (hgrow : w.grownBy w1 none) : FilledI w.heap.size len f 0 w w1 := by
  refine ⟨(Below.refl _ _).grown hgrow (Nat.le_refl _) (by simp), ?_, ?_, ?_, fun j hj => by omega⟩
  · rcases hown.2 with ⟨h, _⟩ | ⟨g, cap, cur, h, _, hg, _⟩
    · simp at h
    · simp only [Value.slice.injEq, Option.some.injEq, Addr.mk.injEq, and_true, true_and] at h
      obtain ⟨rfl, _⟩ := h
      exact (Array.getElem?_eq_some_iff.1 hg).1
  · intro j hj
    have hx := hown.1
    rw [hown.cellAt j (by omega)]
    exact ⟨xs[j]'(by omega), List.getElem?_eq_getElem (by omega)⟩
  · intro j hj
    exact hown.frozenAt j

/-- What markByteS has done behind k rounds, at a row at (b, off). -/
def MarkedI (b off len : Nat) (m : Int) (k : Nat) (w wr : World) : Prop :=
  w.grownBy wr (some b) ∧ (∀ j, j < len → (∃ u, wr.cell? ⟨b, off + j, none⟩ = some u) ∧ wr.frozen? ⟨b, off + j, none⟩ = false) ∧ ∀ j, j < k → wr.cell? ⟨b, off + j, none⟩ = some (.int .i64 (m + j))
theorem MarkedI.step {b off len : Nat} {m : Int} {k : Nat} {w wr : World} (h : MarkedI b off len m k w wr) (hk : k < len) : MarkedI b off len m (k + 1) w (wr.setCell ⟨b, off + k, none⟩ (.int .i64 (m + k))) := by
  obtain ⟨h1, h2, h3⟩ := h
  refine ⟨⟨h1.os, h1.tape, h1.output, by simpa using h1.size, fun j hj hne => ?_⟩, fun j hj => ⟨?_, ?_⟩, fun j hj => ?_⟩
  · rw [Below.heap_setCell _ _ _ _ (fun e => hne (by rw [e]))]
    exact h1.block j hj hne
  · exact cell?_setCell_some (h2 j hj).1.choose_spec
  · simpa using (h2 j hj).2
  · by_cases e : j = k
    · subst e
      exact cell_set_same (h2 j hk).1
    · rw [cell_set_ne (by omega)]
      exact h3 j (by omega)

set_option maxHeartbeats 400000 in
theorem markInts (ad : Option Addr) (len cap : Nat) (m : Int) (w : World) (hr : Room w ad len) (hl : len ≤ 1048576) (hm0 : 0 ≤ m) (hm1 : m ≤ 1000000000000) :
    Calls Try.prog 34 #[.slice ad len cap, .int .i64 m] w fun e w' => e = .returned (.int .i64 (m + len)) ∧ ViewI w' ad len (fun i => m + i) ∧ Room w' ad len ∧ (w' = w ∨ ∃ a, ad = some a ∧ 0 < len ∧ w.grownBy w' (some a.block)) := by
  by_cases hz : len = 0
  · subst hz
    go_enter Try.func34, Try.ntmps34
    go_wp2
    refine wp_loop_rounds 1 ?_; rw [rounds_succ]
    go_wp2
    go_ret
    exact ⟨by simp, fun h => absurd h (by omega), fun h => absurd h (by omega), .inl rfl⟩
  · obtain ⟨b, off, rfl, hc⟩ := hr (by omega)
    have M0 : MarkedI b off len m 0 w w := ⟨⟨rfl, rfl, rfl, Nat.le_refl _, fun _ _ _ => rfl⟩, hc, fun j hj => absurd hj (by omega)⟩
    clear hc hr
    go_enter Try.func34, Try.ntmps34
    go_wp2
    go_loopw [1, 5] (fun q i wr => ∃ k : Nat, k ≤ len ∧ i = .int .i64 k ∧ q = .int .i64 (m + k) ∧ MarkedI b off len m k w wr) (fun _ i _ => len - (intOf i).toNat)
    case atStart => exact ⟨0, Nat.zero_le _, rfl, by simp, M0⟩
    case round =>
      obtain ⟨k, hk, rfl, rfl, M⟩ := hrel
      clear M0
      by_cases hlt : k < len
      · obtain ⟨u, hu⟩ := (M.2.1 k hlt).1
        have hfz := (M.2.1 k hlt).2
        have M1 := M.step hlt
        clear M
        go_wp2
        go_roundw
        case rel => exact ⟨k + 1, by omega, by go_num, by go_num, by simpa using M1⟩
        case measure => simp [intOf]; omega
      · obtain rfl : k = len := by omega
        go_wp2
        go_ret
        exact ⟨rfl, fun _ => ⟨b, off, rfl, M.2.2⟩, fun _ => ⟨b, off, rfl, M.2.1⟩, .inr ⟨_, rfl, by omega, M.1⟩⟩



end Go.Proofs.Ytdfjfodfnildiaa
namespace Go.Proofs.Ytdfjfodfnildiaa
open Go.ChangeShapes Go.WideShapes Go.ChangeAt Go.RowKit
open Go.ChangeMaps (open_string shut_string)
set_option linter.unusedVariables false
set_option maxRecDepth 100000

/-- What is known of a list of numbers that comes in. -/
structure IntsIn (w : World) (ad : Option Addr) (ids : List Int) : Prop where
  lm : ids.length ≤ maxLen
  hv : ViewI w ad ids.length (fun i => ids.getD i 0)
  hB : ∀ a, ad = some a → 0 < ids.length → a.block < w.heap.size
set_option maxRecDepth 100000 in
theorem intsIn_open {H : Type} {enc : TypeId × Value → H} {w : World} {r : Reach} {b0 : Nat} {v : Value} {d : DataW H} {p : List MemPlace} (hv : Value.okWide Try.prog w r b0 30 v) (h : DataW.Trod enc Try.prog w 0 (fun _ => true) true 30 v d p) :
    ∃ ad cap ids, v = .slice ad (List.length ids) cap ∧ IntsIn w ad ids := by
  obtain ⟨n, hn⟩ := h
  obtain ⟨a0, len0, cap0, rfl⟩ := okWide_slice (P := Try.prog) (t := 30) (e := 3) Try.underlying30 hv
  have hcell0 : ∀ x, (Value.slice a0 len0 cap0).cells.toList = [x] → Value.slice a0 len0 cap0 = x := fun x h => by simpa [Value.cells] using h
  rcases open_ints Try.underlying30 Try.underlying3 (by kernel_rfl) hn with ⟨hcs, _⟩ | ⟨x, l, cp, zs, hcs, _, hl, hm, hz, _, hcell, hwz⟩
  · exact ⟨none, 0, [], hcell0 _ hcs, by simp, fun h => absurd h (by simp), fun a h => by simp at h⟩
  · simp at hz
    refine ⟨some x, cp, (List.range l).map (fun i => zs.getD i 0), by rw [hcell0 _ hcs]; simp, by simp; omega, fun hp => ?_, fun a h hp => ?_⟩
    · simp at hp
      obtain ⟨b, off, rfl, hc⟩ := ints_at hcell (by omega)
      refine ⟨b, off, rfl, fun i hi => ?_⟩
      simp at hi
      rw [hc i (by omega)]
      simp [List.getD, hi]
    · obtain rfl : x = a := by simpa using h
      simp at hp
      have hc := hcell 0 (by omega)
      simpa [Addr.add] using World.block_lt_of_cell? w _ hc
/-- What is known of a list of links that comes in. -/
structure LinksIn (w : World) (ad : Option Addr) (cap : Nat) (K : List Lk) : Prop where
  lm : K.length ≤ maxLen
  hv : FView lkEnc w ad K
  hn : ad = none → cap = 0
set_option maxRecDepth 100000 in
theorem linksIn_open {H : Type} {enc : TypeId × Value → H} {w : World} {r : Reach} {b0 : Nat} {v : Value} {d : DataW H} {p : List MemPlace} (hv : Value.okWide Try.prog w r b0 41 v) (h : DataW.Trod enc Try.prog w 0 (fun _ => true) true 41 v d p) :
    ∃ ad cap K, v = .slice ad (List.length K) cap ∧ LinksIn w ad cap K := by
  obtain ⟨n, hn⟩ := h
  obtain ⟨a0, len0, cap0, rfl⟩ := okWide_slice (P := Try.prog) (t := 41) (e := 111) Try.underlying41 hv
  obtain ⟨ad, cap, K, e, m, hV, hz⟩ := lkRow_open (v := .slice a0 len0 cap0) (by simpa [Value.cells] using hn)
  exact ⟨ad, cap, K, e, m, hV, hz⟩
/-- Numbers that a call made: they are read, and may be written. -/
structure IRow (lo : Nat) (w : World) (g : Nat) (n : Nat) (f : Nat → Int) : Prop where
  v : ViewI w (some ⟨g, 0, none⟩) n f
  r : Room w (some ⟨g, 0, none⟩) n
  lt : lo ≤ g ∧ g < w.heap.size
theorem IRow.later {lo : Nat} {w w' : World} {g n : Nat} {f : Nat → Int} (h : IRow lo w g n f) (k : Below w.heap.size w w') : IRow lo w' g n f :=
  ⟨h.v.carry (fun a e _ => by cases e; exact k.block g h.lt.2), h.r.carry (fun a e _ => by cases e; exact k.block g h.lt.2), h.lt.1, Nat.lt_of_lt_of_le h.lt.2 k.size⟩
theorem intEq (ad ad' : Option Addr) (cap cap' : Nat) (n : Nat) (f : Nat → Int) (w : World) (hv : ViewI w ad n f) (hv' : ViewI w ad' n f) (hl : n ≤ 1048576) :
    Calls Try.prog 32 #[.slice ad n cap, .slice ad' n cap'] w fun e w' => e = .returned (.bool true) ∧ Below w.heap.size w w' := by
  refine (eqInts ad ad' n cap cap' f w hv hv' hl).mono ?_
  rintro e w' ⟨rfl, m, rfl⟩
  exact ⟨rfl, ⟨rfl, rfl, rfl, Nat.le_refl _, fun _ _ => rfl⟩⟩
theorem intMark (g cap : Nat) (m : Int) (lo n : Nat) (f : Nat → Int) (w : World) (h : IRow lo w g n f) (hl : n ≤ 1048576) (hm0 : 0 ≤ m) (hm1 : m ≤ 1000000000000) :
    Calls Try.prog 34 #[.slice (some ⟨g, 0, none⟩) n cap, .int .i64 m] w fun e w' => e = .returned (.int .i64 (m + n)) ∧ KeptR g (g + 1) w w' := by
  refine (markInts (some ⟨g, 0, none⟩) n cap m w h.r hl hm0 hm1).mono ?_
  rintro e w' ⟨rfl, _, _, q⟩
  refine ⟨rfl, ?_⟩
  rcases q with rfl | ⟨a, e, _, gr⟩
  · exact KeptR.refl _ _ _
  · cases e
    exact KeptR.of_grown gr (fun k e => by simp only [Option.some.injEq] at e; omega)


end Go.Proofs.Ytdfjfodfnildiaa
namespace Go.Proofs.Ytdfjfodfnildiaa
open Go.ChangeShapes Go.WideShapes Go.ChangeAt Go.RowKit
open Go.ChangeMaps (open_string shut_string)
set_option linter.unusedVariables false
set_option maxRecDepth 100000

set_option maxHeartbeats 4000000 in
theorem bdMarkG (ad : Option Addr) (cap : Nat) (Bs : List Bd) (k0 : Int) (lo hi : Nat) (w : World) (h : NOwn lo hi w (.slice ad Bs.length cap) Bs) (hs : hi ≤ w.heap.size) (hl : Bs.length ≤ 1048576) (hlt : lTo Bs Bs.length ≤ 1048576) (hk0 : 0 ≤ k0) (hk1 : k0 ≤ 1000) :
    Calls Try.prog 60 #[.slice ad Bs.length cap, .int .i64 k0] w fun e w' => e = .returned (.int .i64 (k0 + (kTo Bs Bs.length : Int))) ∧ NOwn lo hi w' (.slice ad Bs.length cap) (marksN Bs k0 Bs.length) ∧ KeptR lo hi w w' := by
  by_cases hz : Bs.length = 0
  · obtain rfl : Bs = [] := List.eq_nil_of_length_eq_zero hz
    go_enter Try.func60, Try.ntmps60
    go_wp2
    refine wp_loop_rounds 1 ?_; rw [rounds_succ]
    go_wp2
    go_ret
    exact ⟨by simp [kTo], by first | (rw [marksN_zero]; exact h) | exact h, KeptR.refl _ _ _⟩
  obtain ⟨g, rfl⟩ : ∃ g, ad = some ⟨g, 0, none⟩ := by
    rcases h.row.2 with ⟨_, q⟩ | ⟨g, cap, cur, q, _⟩
    · omega
    · simp only [Value.slice.injEq] at q
      exact ⟨g, q.1⟩
  have hkb : ∀ j, j ≤ Bs.length → kTo Bs j ≤ 12582912 := fun j hj => by
    have := lTo_mono Bs hj
    rw [kTo_lTo]
    omega
  have hls : ∀ i, i < Bs.length → (Bs.getD i Bd.nil).L.length ≤ 1048576 := fun i hi => Nat.le_trans (getL_le Bs hi) hlt
  replace hlt : Hid _ := hlt
  have M0 : NOwn lo hi w (.slice (some ⟨g, 0, none⟩) Bs.length cap) (marksN Bs k0 0) := by rw [marksN_zero]; exact h
  clear h hz
  go_enter Try.func60, Try.ntmps60
  go_wp2
  go_loopw [1, 5] (fun q i wr => ∃ (k : Nat) (x : Int), k ≤ Bs.length ∧ i = .int .i64 k ∧ q = .int .i64 x ∧ Hid (x = k0 + (kTo Bs k : Int)) ∧ NOwn lo hi wr (.slice (some ⟨g, 0, none⟩) Bs.length cap) (marksN Bs k0 k) ∧ KeptR lo hi w wr) (fun _ i _ => Bs.length - (intOf i).toNat)
  case atStart => exact ⟨0, k0, Nat.zero_le _, rfl, rfl, by unfold Hid; simp [kTo], M0, KeptR.refl _ _ _⟩
  case round =>
    obtain ⟨k, x, hk, rfl, rfl, hx, M, KR⟩ := hrel
    clear M0
    by_cases hlt : k < Bs.length
    · have hx0 : 0 ≤ x := by have := hx.out; omega
      have hx1 : x ≤ 12584000 := by have := hx.out; have := hkb k (by omega); omega
      have hlk := hls k hlt
      have hb3 : Hid (kTo Bs (k + 1) = kTo Bs k + 1 + 11 * (Bs.getD k Bd.nil).L.length) := rfl
      have hml : Hid ((marksN Bs k0 k).length = Bs.length) := marksN_len _ _ _
      have hck := M.view.2.at_ (i := k) (by rw [hml.out]; exact hlt)
      have hnk := M.nest k (by rw [hml.out]; exact hlt)
      rw [marksN_get Bs k0 k hlt, if_neg (by omega)] at hck hnk
      have M' : NOwn lo hi wr (.slice (some ⟨g, 0, none⟩) (marksN Bs k0 k).length cap) (marksN Bs k0 k) := by rw [hml.out]; exact M
      have hfz := M'.row.frozen (k * 2)
      have hsz : hi ≤ wr.heap.size := Nat.le_trans hs KR.size
      have hmv : Hid ((mkd Bs k0 k).v = ((marksN Bs k0 k).getD k Bd.nil).v) := by unfold Hid; rw [mkd_v, marksN_v _ _ _ hlt]
      have hgap := fun q => M.apart k (by rw [hml.out]; exact hlt) g q rfl
      rw [marksN_v _ _ _ hlt] at hgap
      have st := fun (w2 : World) => M'.mark (w2 := w2) (n := k) hsz (by rw [hml.out]; exact hlt) (x := mkd Bs k0 k) hmv.out
      rw [mkd_v, marksN_succ Bs k0 hlt] at st
      simp only [marksN_len] at st
      have hmi : (mkd Bs k0 k).id = x := hx.out.symm
      have hmL : (mkd Bs k0 k).L = (List.range (Bs.getD k Bd.nil).L.length).map (ptMk (x + 1)) := by unfold mkd; rw [hx.out]
      rw [hmi, hmL] at st
      obtain ⟨⟨id, a1, c1, L1⟩, hh⟩ : ∃ m, Bs.getD k Bd.nil = m := ⟨_, rfl⟩
      rw [hh] at hck hnk hlk hgap hb3
      simp only [hh] at st
      unfold Bd.v at hnk hgap st
      dsimp only at hnk hlk hgap st
      obtain ⟨c0, c1_⟩ := hck
      rw [Nat.zero_add] at c0 c1_
      dsimp only at c0 c1_
      have c1' : (wr.setCell ⟨g, k * 2, none⟩ (.int .i64 x)).cell? ⟨g, k * 2 + 1, none⟩ = some (.slice a1 L1.length c1) := (pset_else (by simp)).trans c1_
      have hn1 : FOwn ptEnc 11 68 lo (wr.setCell ⟨g, k * 2, none⟩ (.int .i64 x)) (.slice a1 L1.length c1) L1 := hnk.keep (fun j e => Below.heap_setCell _ _ _ _ (fun q => hgap j e q.symm))
      clear hh M M' hnk hgap hmi hmL hmv
      go_wp2_with fail
      go_at_call 85
      refine (ptMark a1 c1 (x + 1) lo L1 _ hn1 (by omega) (by omega) (by omega)).mono ?_
      rintro e w2 ⟨rfl, o2, gr⟩
      obtain ⟨M1, K1⟩ := st w2 o2 gr
      clear st o2 gr hn1
      go_wp2
      go_roundw
      case rel => exact ⟨k + 1, x + 1 + 11 * (L1.length : Int), by omega, by go_num, rfl, by have := hx.out; have := hb3.out; unfold Hid; omega, M1, KR.trans K1⟩
      case measure => simp [intOf]; omega
    · obtain rfl : k = Bs.length := by omega
      go_wp2
      go_ret
      exact ⟨by rw [← hx.out]; rfl, M, KR⟩
set_option maxHeartbeats 400000 in
theorem heldInts (ad : Option Addr) (len cap : Nat) (m : Int) (w : World) (hv : ViewI w ad len (fun i => m + (i : Int))) (hl : len ≤ 1048576) (hm0 : 0 ≤ m) (hm1 : m ≤ 1000000000000) :
    Calls Try.prog 35 #[.slice ad len cap, .int .i64 m] w fun e w' => e = .returned (.int .i64 (m + len)) ∧ w' = w := by
  go_enter Try.func35, Try.ntmps35
  go_wp2
  go_loop [1, 5] (fun q i => ∃ k : Nat, k ≤ len ∧ i = .int .i64 k ∧ q = .int .i64 (m + k)) (fun _ i => len - (intOf i).toNat)
  case atStart => exact ⟨0, Nat.zero_le _, rfl, by simp⟩
  case round =>
    obtain ⟨k, hk, rfl, rfl⟩ := hrel
    by_cases hlt : k < len
    · obtain ⟨b, off, rfl, hc⟩ := hv (by omega)
      have hck := hc k hlt
      go_wp2
      go_round
      case rel => exact ⟨k + 1, by omega, by go_num, by go_num⟩
      case measure => simp [intOf]; omega
    · obtain rfl : k = len := by omega
      go_wp2
      go_ret
      exact ⟨rfl, rfl⟩
set_option maxHeartbeats 2000000 in
theorem netMarkM (gB gK : Nat) (Cs : List Bd) (K : List Lk) (lo : Nat) (w : World) (h : NetMine lo w gB gK Cs K) (hl : Cs.length ≤ 1048576) (hlt : lTo Cs Cs.length ≤ 1048576) (hk : K.length ≤ 1048576) :
    Calls Try.prog 33 #[.agg #[.slice (some ⟨gB, 0, none⟩) Cs.length Cs.length, .slice (some ⟨gK, 0, none⟩) K.length K.length], .int .i64 1] w fun e w' => (∃ r : Int, e = .returned (.int .i64 r) ∧ 0 ≤ r) ∧ KeptR lo (gK + 1) w w' := by
  have hkb : (kTo Cs Cs.length : Int) ≤ 12582912 := by
    rw [kTo_lTo]
    omega
  obtain ⟨y, hy⟩ : ∃ y, y = w.alloc (Obj.cells #[.slice (some ⟨gB, 0, none⟩) Cs.length Cs.length, .slice (some ⟨gK, 0, none⟩) K.length K.length] 27) := ⟨_, rfl⟩
  have k0y : Below w.heap.size w y := by rw [hy]; exact below_new _
  have A0 : NeAt y w.heap.size (.slice (some ⟨gB, 0, none⟩) Cs.length Cs.length) (.slice (some ⟨gK, 0, none⟩) K.length K.length) := by rw [hy]; exact NeAt.new w _
  have hm := h.lt
  have hy' := h.later k0y
  have hmy := hy'.lt
  obtain ⟨s, hs⟩ : ∃ s, s = 1 + (kTo Cs Cs.length : Int) := ⟨_, rfl⟩
  have s0 : 0 ≤ s := by omega
  have s1 : s ≤ 12582913 := by omega
  replace hs : Hid _ := hs
  go_enter Try.func33, Try.ntmps33
  go_wp2_with fail
  go_at_call 60
  rw [← hy]
  clear hy
  refine (bdMarkG (some ⟨gB, 0, none⟩) Cs.length Cs 1 lo gK y hy'.own (by omega) hl hlt (by decide) (by decide)).mono ?_
  rintro e w1 ⟨rfl, _, kr1⟩
  rw [← hs.out]
  have A1 := A0.keep (kr1.block _ A0.lt (.inr (by omega)))
  have o2 : FOwn lkEnc 4 64 lo w1 (.slice (some ⟨gK, 0, none⟩) K.length K.length) K := hy'.own2.keep (fun g e => kr1.block g (hy'.own2.lt g e).2 (.inr (by have : gK = g := (by simpa [Value.ownBlock] using e); omega)))
  clear A0
  obtain ⟨a0, a1⟩ := A1
  go_wp2_with fail
  go_at_call 61
  refine (lkMark (some ⟨gK, 0, none⟩) K.length s lo K w1 o2 hk s0 (by omega)).mono ?_
  rintro e w2 ⟨rfl, _, gr⟩
  have KR : KeptR lo (gK + 1) w w2 := ((KeptR.of_below k0y).trans (kr1.wide (Nat.le_refl _) (Nat.le_succ _))).trans (KeptR.of_grown gr (fun k e => by have : gK = k := (by simpa [Value.ownBlock] using e); omega))
  clear gr kr1 o2
  go_wp2
  go_ret
  exact ⟨⟨_, rfl, by omega⟩, KR⟩
/-- A list of numbers that was marked from 1 on. -/
structure MRow (w : World) (ad : Option Addr) (n : Nat) : Prop where
  v : ViewI w ad n (fun i => 1 + (i : Int))
  lt : ∀ a, ad = some a → 0 < n → a.block < w.heap.size
theorem MRow.later {w w' : World} {ad : Option Addr} {n : Nat} (h : MRow w ad n) (k : Below w.heap.size w w') : MRow w' ad n :=
  ⟨h.v.carry (fun a e p => k.block _ (h.lt a e p)), fun a e p => Nat.lt_of_lt_of_le (h.lt a e p) k.size⟩
theorem FOwn.roomI {base : Nat} {w : World} {ad : Option Addr} {n cap : Nat} {L : List Int} (h : FOwn ivEnc 1 3 base w (.slice ad n cap) L) : Room w ad L.length := by
  intro hp
  have hn := h.view.1
  subst hn
  obtain ⟨b, off, rfl, hc⟩ := h.view.2.toI hp
  have h0 : off = 0 := by
    rcases h.2 with ⟨q, e⟩ | ⟨g, c, cur, q, _⟩
    · cases q
    · simp only [Value.slice.injEq, Option.some.injEq, Addr.mk.injEq] at q
      exact q.1.2.1
  subst h0
  exact ⟨b, 0, rfl, fun i hi => ⟨⟨_, hc i hi⟩, by rw [Nat.zero_add]; exact h.frozen i⟩⟩
theorem markOwn (base : Nat) (ad : Option Addr) (cap : Nat) (L : List Int) (w : World) (h : FOwn ivEnc 1 3 base w (.slice ad L.length cap) L) (hl : L.length ≤ 1048576) (hb : base ≤ w.heap.size) :
    Calls Try.prog 34 #[.slice ad L.length cap, .int .i64 1] w fun e w' => e = .returned (.int .i64 (1 + (L.length : Int))) ∧ MRow w' ad L.length ∧ Below base w w' := by
  refine (markInts ad L.length cap 1 w h.roomI hl (by decide) (by decide)).mono ?_
  rintro e w' ⟨rfl, hv, _, q⟩
  have hlt : ∀ a, ad = some a → base ≤ a.block ∧ a.block < w.heap.size := fun a e => h.lt a.block (by rw [e]; rfl)
  rcases q with rfl | ⟨a, e, _, gr⟩
  · exact ⟨rfl, ⟨hv, fun a e _ => (hlt a e).2⟩, Below.refl _ _⟩
  · exact ⟨rfl, ⟨hv, fun a e _ => Nat.lt_of_lt_of_le (hlt a e).2 gr.size⟩, (Below.refl base w).grown gr hb (fun k e2 => by cases e2; exact (hlt a e).1)⟩
theorem heldRow (ad : Option Addr) (n cap : Nat) (w : World) (h : MRow w ad n) (hl : n ≤ 1048576) :
    Calls Try.prog 35 #[.slice ad n cap, .int .i64 1] w fun e w' => e = .returned (.int .i64 (1 + (n : Int))) ∧ Below w.heap.size w w' := by
  refine (heldInts ad n cap 1 w h.v hl (by decide) (by decide)).mono ?_
  rintro e w' ⟨rfl, rfl⟩
  exact ⟨rfl, Below.refl _ _⟩
theorem lTo_same {Cs Bs : List Bd} (h : Cs.map Bd.d = Bs.map Bd.d) : ∀ n, lTo Cs n = lTo Bs n
  | 0 => rfl
  | n + 1 => by
    show lTo Cs n + _ = lTo Bs n + _
    rw [lTo_same h n]
    have := congrArg (fun D => D.getD n Bg.nil) h
    simp only [bd_get] at this
    have e : (Cs.getD n Bd.nil).L = (Bs.getD n Bd.nil).L := congrArg Bg.L this
    rw [e]
theorem len_same {Cs Bs : List Bd} (h : Cs.map Bd.d = Bs.map Bd.d) : Cs.length = Bs.length := by
  have := congrArg List.length h
  simpa using this

end Go.Proofs.Ytdfjfodfnildiaa
