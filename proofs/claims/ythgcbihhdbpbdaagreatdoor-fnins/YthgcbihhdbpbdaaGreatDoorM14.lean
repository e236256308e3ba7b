/- Bridges copied. impl.roleAt, walked. impl.Decide, walked. impl.ticked, impl.linked, walked. impl.taken: a claim, walked. impl.taken: a tick, walked. impl.taken: a link, walked. impl.React, walked. impl.BridgeNew, walked. spec.BridgeNew, walked. -/
import Derived.Test.YthgcbihhdbpbdaaGreatDoorRows
import Derived.WalkKit
import Derived.ProofKit
import Derived.OpenShut
import Derived.ShutString
import Derived.ChangeOld
import Derived.Below
import Derived.Deep.QuietTactic
import Derived.BigQuiet
import Derived.WalkSmall
import Derived.Laws.OwnMore
import Derived.WalkSpells
import Derived.WalkLawsBesides
import Derived.Lib.SliceRun
import Derived.Test.YthgcbihhdbpbdaaGreatDoorM5
import Derived.Test.YthgcbihhdbpbdaaGreatDoorM1
import Derived.Deep.Cut
import Derived.Test.YthgcbihhdbpbdaaGreatDoorM6
import Derived.Maps.AppendAt
import Derived.Test.YthgcbihhdbpbdaaGreatDoorKIn2
namespace Go.Proofs.YthgcbihhdbpbdaaGreatDoor
open Go.ChangeShapes Go.WideShapes Go.ChangeAt Go.RowKit
open Go.ChangeMaps (open_string shut_string)
set_option linter.unusedVariables false
set_option maxRecDepth 100000

set_option maxHeartbeats 1000000 in
theorem copS (id : Int) (ad : Option Addr) (cap : Nat) (L : List Pt) (w : World) (hv : FView ptEnc w ad L) (hl : L.length ≤ 1048576) (hn : ad = none → cap = 0) :
    Calls Tryz.prog 92 #[.agg #[.int .i64 id, .slice ad L.length cap]] w fun e w' => ∃ ad' cap', e = .returned (.agg #[.int .i64 id, .slice ad' L.length cap']) ∧ FOwn ptEnc 11 47 w.heap.size w' (.slice ad' L.length cap') L ∧ Below w.heap.size w w' := by
  have hB := hv.lt ptEnc_len (by omega)
  obtain ⟨y, hy⟩ : ∃ y, y = (w.alloc (Obj.cells #[.int .i64 id, .slice ad L.length cap] 51)).alloc (Obj.cells #[.int .i64 0, .slice none 0 0] 51) := ⟨_, rfl⟩
  have B0 : Below w.heap.size w y := by rw [hy]; exact ((Below.refl _ _).alloc (Nat.le_refl _) _).alloc (by simp) _
  have A0 : BrAt y w.heap.size id (.slice ad L.length cap) := by rw [hy]; constructor <;> simp [go_sem]
  have A1 : BBox y (w.heap.size + 1) 0 (.slice none 0 0) := by rw [hy]; refine ⟨?_, fun i => ?_⟩; constructor <;> simp [go_sem]; simp [go_sem]
  have S0 := A1.lt
  have hv1 := hv.below B0 hB
  obtain ⟨i1, hj, hy0, hy1, hy2⟩ := info_parts ptInfo
  go_enter Tryz.func92, Tryz.ntmps92
  go_wp2
  rw [← hy]
  clear hy
  refine wp_region_held (S := fun Y => Below (w.heap.size + 1) y Y) (by kernel_rfl) ?_
  change wpAnyH _ _ _ _ _ _ _ _ (World.drew _)
  have hb0 : Below y.heap.size y y.drew := (Below.refl _ _).drew
  obtain ⟨u0, hy0'⟩ : ∃ y_, y_ = y.drew := ⟨_, rfl⟩
  rw [← hy0'] at hb0 ⊢
  clear hy0'
  have hc0 : Below (w.heap.size + 1) y u0 := hb0.mono (by omega)
  refine takeW 0 3 (.pointer (some ⟨w.heap.size, 0, none⟩)) rfl rfl (by kernel_rfl) (by kernel_rfl) (by kernel_rfl) (fun _ _ _ h => h) (by kernel_rfl) (by (intro w hSw; go_simp)) (by assumption) ?_
  simp only [List.set_cons_zero, List.set_cons_succ]
  refine takeW 1 4 (.int .i64 id) rfl rfl (by kernel_rfl) (by kernel_rfl) (by kernel_rfl) (fun _ _ _ h => h) (by kernel_rfl) (by (intro Y hSw; obtain ⟨X0, X1⟩ := A0.below hSw (by omega); go_simp)) (by assumption) ?_
  simp only [List.set_cons_zero, List.set_cons_succ]
  refine takeW 3 6 (.pointer (some ⟨w.heap.size, 1, none⟩)) rfl rfl (by kernel_rfl) (by kernel_rfl) (by kernel_rfl) (fun _ _ _ h => h) (by kernel_rfl) (by (intro w hSw; go_simp)) (by assumption) ?_
  simp only [List.set_cons_zero, List.set_cons_succ]
  refine takeW 4 7 (.slice ad L.length cap) rfl rfl (by kernel_rfl) (by kernel_rfl) (by kernel_rfl) (fun _ _ _ h => h) (by kernel_rfl) (by (intro Y hSw; obtain ⟨X0, X1⟩ := A0.below hSw (by omega); go_simp)) (by assumption) ?_
  simp only [List.set_cons_zero, List.set_cons_succ]
  refine wpAnyH_all (rs := [2]) (by kernel_rfl) (by simp) ?_
  intro i hi; obtain rfl : i = 2 := by simpa using hi
  refine wpOp_step rfl (fun K hK => ?_)
  rw [if_pos (by kernel_rfl)]
  go_simp
  obtain ⟨u1, hu1⟩ : ∃ y_, y_ = u0.alloc (Obj.cells #[] 47) := ⟨_, rfl⟩
  have oE : FOwn ptEnc 11 47 u0.heap.size u1 (.slice (some ⟨u0.heap.size, 0, none⟩) 0 0) ([] : List Pt) := by rw [hu1]; exact FOwn.empty u0
  have kq : Below u0.heap.size u0 u1 := by rw [hu1]; exact below_new _
  have z0 := hb0.size
  have hb1 : Below y.heap.size y u1 := hb0.trans (kq.mono hb0.size)
  have hc1 : Below (w.heap.size + 1) y u1 := hb1.mono (by omega)
  have z1 := kq.size
  rw [← hu1]
  clear hu1
  generalize u0.heap.size = E at oE kq z0 z1 ⊢
  refine hK _ _ ⟨hc1, ?_⟩
  clear hK K hi
  refine wpAnyH_all (rs := [5]) (by kernel_rfl) (by simp) ?_
  intro i hi; obtain rfl : i = 5 := by simpa using hi
  refine wpOp_step rfl (fun K hK => ?_)
  rw [if_pos (by kernel_rfl)]
  refine fapp ptEnc_len ptEnc_ones 8 _ _ 49 rfl rfl E 47 i1 (.agg #[.bool false, .bool false, .int .i64 0, .int .i64 0, .int .i64 0, .int .i64 0, .int .i64 0, .int .i64 0, .int .i64 0, .int .i64 0, .bool false]) 80 Tryz.underlying49 hj hy0 hy1 hy2 rfl (by decide) (by decide) (.slice (some ⟨E, 0, none⟩) 0 0) ([] : List Pt) rfl oE ad cap L rfl hn (hv1.below hb1 (hv1.lt ptEnc_len (by omega))) (by simp; omega) z1 ?_
  intro vN u2 oN gN _
  replace oN : FOwn ptEnc 11 47 E u2 vN L := oN
  have hb2 : Below y.heap.size y u2 := hb1.grown gN hb1.size (fun j e => Nat.le_trans z0 (oE.lt j e).1)
  have hc2 : Below (w.heap.size + 1) y u2 := hb2.mono (by omega)
  obtain ⟨adN, capN, rfl⟩ := oN.open_
  clear gN
  simp only [List.set_cons_zero, List.set_cons_succ]
  refine hK _ _ ⟨hc2, ?_⟩
  clear hK K hi
  refine takeW 6 9 (.agg #[.int .i64 id, .slice adN L.length capN]) rfl rfl (by kernel_rfl) (by kernel_rfl) (by kernel_rfl) (fun _ _ _ h => h) (by kernel_rfl) (by (intro w hSw; go_simp)) (by assumption) ?_
  simp only [List.set_cons_zero, List.set_cons_succ]
  refine wpAnyH_all (rs := [7]) (by kernel_rfl) (by simp) ?_
  intro i hi; obtain rfl : i = 7 := by simpa using hi
  refine wpOp_step rfl (fun K hK => ?_)
  rw [if_pos (by kernel_rfl)]
  have A2 := A1.below hb2 S0
  have A3 := A2
  obtain ⟨⟨t0, t1⟩, tf⟩ := A2
  go_simp
  clear t0 t1 tf
  obtain ⟨uf, hu⟩ : ∃ y_, y_ = (u2.setCell ⟨w.heap.size + 1, 0, none⟩ (.int .i64 id)).setCell ⟨w.heap.size + 1, 1, none⟩ (.slice adN L.length capN) := ⟨_, rfl⟩
  have A4 : BBox uf (w.heap.size + 1) id (.slice adN L.length capN) := by rw [hu]; exact A3.put _ _
  have OF : FOwn ptEnc 11 47 w.heap.size uf (.slice adN L.length capN) L := (oN.base (by omega)).keep fun g e => by
    have := oN.lt g e
    rw [hu, Below.heap_setCell _ _ _ _ (by show g ≠ w.heap.size + 1; omega), Below.heap_setCell _ _ _ _ (by show g ≠ w.heap.size + 1; omega)]
  have BF : Below w.heap.size w uf := by rw [hu]; exact ((B0.trans (hb2.mono B0.size)).setCell (by show _ ≤ w.heap.size + 1; omega) _).setCell (by show _ ≤ w.heap.size + 1; omega) _
  have hbf : Below (w.heap.size + 1) y uf := by rw [hu]; exact (hc2.setCell (Nat.le_refl (w.heap.size + 1)) _).setCell (Nat.le_refl (w.heap.size + 1)) _
  rw [← hu]
  clear hu
  refine hK _ _ ⟨hbf, ?_⟩
  clear hK K hi
  refine wpAnyH_done (by kernel_rfl) ?_ _
  obtain ⟨t0, t1⟩ := A4.at_
  go_wp2
  refine bodyPost_ret (v := .agg #[.int .i64 id, .slice adN L.length capN]) (by simp [results, Tryz.results92, go_sem, *]) rfl ⟨_, _, rfl, OF, BF⟩


end Go.Proofs.YthgcbihhdbpbdaaGreatDoor
namespace Go.Proofs.YthgcbihhdbpbdaaGreatDoor
open Go.ChangeShapes Go.WideShapes Go.ChangeAt Go.RowKit
open Go.ChangeMaps (open_string shut_string)
set_option linter.unusedVariables false
set_option maxRecDepth 100000

/-- Worlds that are alike below B, but at g. -/
structure Bar (g B : Nat) (a w : World) : Prop where
  size : a.heap.size ≤ w.heap.size
  block : ∀ k, k < B → k ≠ g → w.heap[k]? = a.heap[k]?
theorem Bar.of {g B : Nat} {a w : World} (h : Below B a w) : Bar g B a w := ⟨h.size, fun k hk _ => h.block k hk⟩
theorem Bar.putAll {g B o : Nat} {a w : World} (vs : List Value) (h : Bar g B a w) : Bar g B a (putAll w g o vs) :=
  ⟨by rw [size_putAll]; exact h.size, fun k hk hne => by rw [heap_putAll _ _ _ _ hne]; exact h.block k hk hne⟩
theorem PtAt.bar {g B q : Nat} {a w : World} {x : Pt} (h : PtAt a q x) (k : Bar g B a w) (hq : q < B) (hne : q ≠ g) : PtAt w q x := h.keep (k.block q hq hne)
theorem BrAt.bar {g B q : Nat} {a w : World} {id : Int} {v : Value} (h : BrAt a q id v) (k : Bar g B a w) (hq : q < B) (hne : q ≠ g) : BrAt w q id v := h.keep (k.block q hq hne)
theorem turnR_up (x : Pt) (role : Int) : turnR x role = turnUp x role := by
  unfold turnUp
  cases hu : x.up
  · unfold turnR; rw [hu]; simp
  · simp
theorem FOwn.row {X : Type} {enc : X → List Value} {n : Nat} {T : TypeId} {base : Nat} {w : World} {ad : Option Addr} {len cap : Nat} {L : List X} (h : FOwn enc n T base w (.slice ad len cap) L) (h0 : 0 < L.length) : ∃ g, ad = some ⟨g, 0, none⟩ ∧ base ≤ g ∧ g < w.heap.size := by
  rcases h.2 with ⟨_, q⟩ | ⟨g, c, cur, q, _⟩
  · omega
  · simp only [Value.slice.injEq] at q
    obtain ⟨rfl, rfl, rfl⟩ := q
    have := h.lt g rfl
    exact ⟨g, rfl, this⟩
end Go.Proofs.YthgcbihhdbpbdaaGreatDoor
namespace Go.Proofs.YthgcbihhdbpbdaaGreatDoor
open Go.ChangeShapes Go.WideShapes Go.ChangeAt Go.RowKit
open Go.ChangeMaps (open_string shut_string)
set_option linter.unusedVariables false
set_option maxRecDepth 100000

end Go.Proofs.YthgcbihhdbpbdaaGreatDoor
namespace Go.Proofs.YthgcbihhdbpbdaaGreatDoor
open Go.ChangeShapes Go.WideShapes Go.ChangeAt Go.RowKit
open Go.ChangeMaps (open_string shut_string)
set_option linter.unusedVariables false
set_option maxRecDepth 100000

/-- A port whose link turned. -/
def linkP (up : Bool) : Pt := if up then ⟨true, false, 0, 0, 0, 0, 0, 0, 3, 0, false⟩ else Pt.nil
theorem link_ok (up : Bool) : pOk (linkP up) = true := by cases up <;> decide
theorem tick_imp {x : Pt} (h : pOk x = true) : tickP x = if ((fadeR x).ro = 1 ∨ (fadeR x).ro = 2) ∧ 0 < (fadeR x).wa then { fadeR x with wa := (fadeR x).wa - 1, op := ((fadeR x).wa - 1 == 0) } else fadeR x := by
  obtain ⟨h1, h2, h3, h4, _⟩ := pOk_parts.1 h
  obtain ⟨k1, k2, k3, k4⟩ := fadeR_keeps x
  unfold tickP tickW
  generalize fadeR x = y at *
  obtain ⟨up, has, r, c, b, p, hh, l, ro, wa, op⟩ := y
  dsimp only at *
  by_cases hc : (ro = 1 ∨ ro = 2) ∧ 0 < wa
  · rw [if_pos hc, if_pos hc]
    congr 1
    unfold raOp
    rw [Bool.eq_iff_iff]
    simp only [decide_eq_true_eq, beq_iff_eq]
    omega
  · rw [if_neg hc, if_neg hc]
    congr 1
    rw [k4, h3, k2, k3]
end Go.Proofs.YthgcbihhdbpbdaaGreatDoor
namespace Go.Proofs.YthgcbihhdbpbdaaGreatDoor
open Go.ChangeShapes Go.WideShapes Go.ChangeAt Go.RowKit
open Go.ChangeMaps (open_string shut_string)
set_option linter.unusedVariables false
set_option maxRecDepth 100000

/-- A bridge behind what came in. -/
def afterL (id : Int) (L : List Pt) (x : Ik) : List Pt :=
  if x.k = 1 then decideR id (L.set x.q.toNat (claimR (L.getD x.q.toNat Pt.nil) x.r x.c x.b x.p x.h))
  else if x.k = 2 then decideR id (L.map tickP)
  else if (L.getD x.q.toNat Pt.nil).up = x.up then L else decideR id (L.set x.q.toNat (linkP x.up))
theorem afterL_len (id : Int) (L : List Pt) (x : Ik) : (afterL id L x).length = L.length := by
  unfold afterL
  split
  · rw [decideR_len, List.length_set]
  · split
    · rw [decideR_len, List.length_map]
    · split
      · rfl
      · rw [decideR_len, List.length_set]
end Go.Proofs.YthgcbihhdbpbdaaGreatDoor
namespace Go.Proofs.YthgcbihhdbpbdaaGreatDoor
open Go.ChangeShapes Go.WideShapes Go.ChangeAt Go.RowKit
open Go.ChangeMaps (open_string shut_string)
set_option linter.unusedVariables false
set_option maxRecDepth 100000

end Go.Proofs.YthgcbihhdbpbdaaGreatDoor
namespace Go.Proofs.YthgcbihhdbpbdaaGreatDoor
open Go.ChangeShapes Go.WideShapes Go.ChangeAt Go.RowKit
open Go.ChangeMaps (open_string shut_string)
set_option linter.unusedVariables false
set_option maxRecDepth 100000

end Go.Proofs.YthgcbihhdbpbdaaGreatDoor
namespace Go.Proofs.YthgcbihhdbpbdaaGreatDoor
open Go.ChangeShapes Go.WideShapes Go.ChangeAt Go.RowKit
open Go.ChangeMaps (open_string shut_string)
set_option linter.unusedVariables false
set_option maxRecDepth 100000

theorem join_region {P : Program} {reg : Code} {K : Act → World → Prop} {Q : Exit → Act → World → Prop} {l : List Value} {ds : List Deferred} {W : World} (R : List Value → List Value → World → Prop) (h1 : ∀ l' W', R l l' W' → K ⟨l'.toArray, ds⟩ W') (h2 : ∀ K2 : Act → World → Prop, Hid (∀ l' W', R l l' W' → K2 ⟨l'.toArray, ds⟩ W') → Code.wp P reg (Exit.then K2 Q) ⟨l.toArray, ds⟩ W) : Code.wp P reg (Exit.then K Q) ⟨l.toArray, ds⟩ W := h2 K h1
/-- Whether what comes in is taken. -/
def goes (id : Int) (L : List Pt) (x : Ik) : Bool := bOk id L && (inOk x && decide (0 ≤ x.q ∧ x.q < (L.length : Int)))
def reactL (id : Int) (L : List Pt) (x : Ik) : List Pt := if goes id L x then afterL id L x else L
def reactO (id : Int) (L : List Pt) (x : Ik) : List Ou := if goes id L x then gatesTo L (afterL id L x) L.length ++ (if x.k = 2 then toldTo id (afterL id L x) L.length else []) else []
theorem reactL_len (id : Int) (L : List Pt) (x : Ik) : (reactL id L x).length = L.length := by
  unfold reactL
  split
  · exact afterL_len id L x
  · rfl
theorem inOk_q {x : Ik} (h : inOk x = true) : 0 ≤ x.q ∧ x.q ≤ 3 := by
  unfold inOk at h
  split at h
  · simp only [Bool.and_eq_true, decide_eq_true_eq] at h; exact h.1
  · split at h
    · simp only [Bool.and_eq_true, decide_eq_true_eq] at h; exact h.1
    · split at h
      · simp only [decide_eq_true_eq] at h; omega
      · cases h
theorem inOk_k {x : Ik} (h : inOk x = true) : x.k = 1 ∨ x.k = 2 ∨ x.k = 3 := by
  unfold inOk at h
  split at h
  · exact .inl (by assumption)
  · split at h
    · exact .inr (.inr (by assumption))
    · split at h
      · exact .inr (.inl (by assumption))
      · cases h
end Go.Proofs.YthgcbihhdbpbdaaGreatDoor
namespace Go.Proofs.YthgcbihhdbpbdaaGreatDoor
open Go.ChangeShapes Go.WideShapes Go.ChangeAt Go.RowKit
open Go.ChangeMaps (open_string shut_string)
set_option linter.unusedVariables false
set_option maxRecDepth 100000

/-- Whether a new bridge is right. -/
def nOk (id n : Int) : Bool := decide (1 ≤ id ∧ id ≤ 9) && decide (1 ≤ n ∧ n ≤ 4)
theorem bOk_new {id : Int} {k : Nat} : bOk id (List.replicate k Pt.nil) = nOk id k := by
  unfold bOk nOk
  have e : (List.replicate k Pt.nil).all pOk = true := by
    rw [List.all_eq_true]; intro x hx; rw [List.eq_of_mem_replicate hx]; exact pOk_nil
  rw [e, List.length_replicate, Bool.and_true]
  congr 1
  exact decide_eq_decide.2 (by omega)
/-- What BridgeNew answers: its number, its ports. -/
def newI (id n : Int) : Int := if nOk id n then id else 0
def newL (id n : Int) : List Pt := if nOk id n then List.replicate n.toNat Pt.nil else []
theorem made_nil {n : Nat} (h : n ≤ 4) : (madeCells (Value.cells (.agg #[.bool false, .bool false, .int .i64 0, .int .i64 0, .int .i64 0, .int .i64 0, .int .i64 0, .int .i64 0, .int .i64 0, .int .i64 0, .bool false])) (n * 11)).toList = fcells ptEnc (List.replicate n Pt.nil) := by
  rcases (by omega : n = 0 ∨ n = 1 ∨ n = 2 ∨ n = 3 ∨ n = 4) with rfl | rfl | rfl | rfl | rfl
  · simp only [madeCells, Array.toList_map, Array.toList_range]; rfl
  · simp only [madeCells, Array.toList_map, Array.toList_range]; rfl
  · simp only [madeCells, Array.toList_map, Array.toList_range]; rfl
  · simp only [madeCells, Array.toList_map, Array.toList_range]; rfl
  · simp only [madeCells, Array.toList_map, Array.toList_range]; rfl
theorem FView.one (w : World) (t : TypeId) (x : Pt) : FView ptEnc (w.alloc (Obj.cells #[.bool x.up, .bool x.has, .int .i64 x.r, .int .i64 x.c, .int .i64 x.b, .int .i64 x.p, .int .i64 x.h, .int .i64 x.l, .int .i64 x.ro, .int .i64 x.wa, .bool x.op] t)) (some ⟨w.heap.size, 0, none⟩) [x] := by
  intro _
  refine ⟨w.heap.size, 0, rfl, fun j v hv => ?_⟩
  have hj : j < 11 := by
    have := (List.getElem?_eq_some_iff.1 hv).1
    simpa [fcells, ptEnc] using this
  rcases (by omega : j = 0 ∨ j = 1 ∨ j = 2 ∨ j = 3 ∨ j = 4 ∨ j = 5 ∨ j = 6 ∨ j = 7 ∨ j = 8 ∨ j = 9 ∨ j = 10) with rfl | rfl | rfl | rfl | rfl | rfl | rfl | rfl | rfl | rfl | rfl
  · cases hv; simp [go_sem]
  · cases hv; simp [go_sem]
  · cases hv; simp [go_sem]
  · cases hv; simp [go_sem]
  · cases hv; simp [go_sem]
  · cases hv; simp [go_sem]
  · cases hv; simp [go_sem]
  · cases hv; simp [go_sem]
  · cases hv; simp [go_sem]
  · cases hv; simp [go_sem]
  · cases hv; simp [go_sem]
theorem minS (a b : Int) (w : World) : Calls Tryz.prog 117 #[.int .i64 a, .int .i64 b] w fun e w' => e = .returned (.int .i64 (if a < b then a else b)) ∧ w' = w := by
  by_cases h : a < b
  · rw [if_pos h]
    have d : decide (a < b) = true := decide_eq_true h
    clear h
    go_enter Tryz.func117, Tryz.ntmps117
    go_wp2
    go_ret
    exact ⟨rfl, rfl⟩
  · rw [if_neg h]
    have d : decide (a < b) = false := decide_eq_false h
    clear h
    go_enter Tryz.func117, Tryz.ntmps117
    go_wp2
    go_ret
    exact ⟨rfl, rfl⟩
end Go.Proofs.YthgcbihhdbpbdaaGreatDoor
namespace Go.Proofs.YthgcbihhdbpbdaaGreatDoor
open Go.ChangeShapes Go.WideShapes Go.ChangeAt Go.RowKit
open Go.ChangeMaps (open_string shut_string)
set_option linter.unusedVariables false
set_option maxRecDepth 100000

set_option maxHeartbeats 4000000 in
theorem newBS (id n : Int) (w : World) :
    Calls Tryz.prog 96 #[.int .i64 id, .int .i64 n] w fun e w' => ∃ ad' cap', e = .returned (.tuple #[.agg #[.int .i64 (newI id n), .slice ad' (newL id n).length cap'], .bool (nOk id n)]) ∧ FOwn ptEnc 11 47 w.heap.size w' (.slice ad' (newL id n).length cap') (newL id n) ∧ Below w.heap.size w w' := by
  obtain ⟨i0, hi, hz0, hz1, hz2⟩ := info_parts ptInfo
  obtain ⟨y, hy⟩ : ∃ y, y = (w.alloc (Obj.cells #[.int .i64 0, .slice none 0 0] 51)).alloc (Obj.cells #[.int .i64 id, .slice none 0 0] 51) := ⟨_, rfl⟩
  have B0 : Below w.heap.size w y := by rw [hy]; exact ((Below.refl _ _).alloc (Nat.le_refl _) _).alloc (by simp) _
  have R0 : BBox y w.heap.size 0 (.slice none 0 0) := by rw [hy]; refine ⟨?_, fun i => ?_⟩; constructor <;> simp [go_sem]; simp [go_sem]
  have N0 : BBox y (w.heap.size + 1) id (.slice none 0 0) := by rw [hy]; refine ⟨?_, fun i => ?_⟩; constructor <;> simp [go_sem]; simp [go_sem]
  have S0 := N0.lt
  obtain ⟨IV, hI⟩ : ∃ v, v = newI id n := ⟨_, rfl⟩
  obtain ⟨LV, hM⟩ : ∃ v, v = newL id n := ⟨_, rfl⟩
  obtain ⟨NV, hN⟩ : ∃ v, v = nOk id n := ⟨_, rfl⟩
  rw [← hI, ← hM, ← hN]
  obtain ⟨m, hm⟩ : ∃ m : Nat, m = (if n < 5 then n else 5).toNat := ⟨_, rfl⟩
  have hm5 : m ≤ 5 := by rw [hm]; split <;> omega
  have hmn : nOk id n = nOk id (m : Int) := by
    unfold nOk
    congr 1
    apply decide_eq_decide.2
    rw [hm]
    split <;> omega
  have hmt : nOk id n = true → n.toNat = m := by
    intro h
    unfold nOk at h
    simp only [Bool.and_eq_true, decide_eq_true_eq] at h
    rw [hm, if_pos (by omega)]
  obtain ⟨t, ht⟩ : ∃ t : Int, t = (if n < 5 then n else 5) := ⟨_, rfl⟩
  have htm : t ≤ (m : Int) ∧ (0 ≤ t → t = (m : Int)) ∧ (t < 0 → m = 0) := by rw [ht, hm]; split <;> omega
  replace ht : Hid _ := ht
  replace hI : Hid _ := hI
  replace hM : Hid _ := hM
  replace hN : Hid _ := hN
  replace hmn : Hid _ := hmn
  replace hmt : Hid _ := hmt
  replace htm : Hid _ := htm
  clear hm
  go_enter Tryz.func96, Tryz.ntmps96
  go_wp2
  rw [← hy]
  clear hy
  go_loopw [7] (fun i wr => ∃ k : Nat, k ≤ m ∧ i = .int .i64 (k : Int) ∧ (∃ adk capk, FOwn ptEnc 11 47 y.heap.size wr (.slice adk k capk) (List.replicate k Pt.nil) ∧ BBox wr (w.heap.size + 1) id (.slice adk k capk)) ∧ BBox wr w.heap.size 0 (.slice none 0 0) ∧ Below w.heap.size w wr ∧ y.heap.size ≤ wr.heap.size) (fun i _ => m - (intOf i).toNat)
  case atStart => exact ⟨0, Nat.zero_le _, rfl, ⟨none, 0, FOwn.nil, N0⟩, R0, B0, Nat.le_refl _⟩
  case round =>
    obtain ⟨k, hk, rfl, ⟨adk, capk, O, N1⟩, R1, B1, S1⟩ := hrel
    obtain ⟨⟨n0, n1⟩, nf⟩ := N1
    have N1 : BBox wr (w.heap.size + 1) id (.slice adk k capk) := ⟨⟨n0, n1⟩, nf⟩
    by_cases hlt : (k : Int) < t
    · have dl : decide ((k : Int) < t) = true := decide_eq_true hlt
      have hkm : k < m := by have := htm.out; omega
      replace hlt : Hid _ := hlt
      go_wp2_with fail
      go_at_call 117
      refine (minS n 5 wr).mono ?_
      rintro e w2 ⟨rfl, rfl⟩
      rw [← ht.out]
      have V1 := FView.one w2 47 Pt.nil
      have B2 := B1.alloc B1.size (Obj.cells #[.bool false, .bool false, .int .i64 0, .int .i64 0, .int .i64 0, .int .i64 0, .int .i64 0, .int .i64 0, .int .i64 0, .int .i64 0, .bool false] 47)
      have O2 : FOwn ptEnc 11 47 y.heap.size (w2.alloc (Obj.cells #[.bool false, .bool false, .int .i64 0, .int .i64 0, .int .i64 0, .int .i64 0, .int .i64 0, .int .i64 0, .int .i64 0, .int .i64 0, .bool false] 47)) (.slice adk k capk) (List.replicate k Pt.nil) := O.later (below_new _)
      have hcn := O.capn
      go_wp2_with (first | (at_builtin; refine fappL ptEnc_len ptEnc_ones rfl _ _ 49 rfl y.heap.size 47 i0 (.agg #[.bool false, .bool false, .int .i64 0, .int .i64 0, .int .i64 0, .int .i64 0, .int .i64 0, .int .i64 0, .int .i64 0, .int .i64 0, .bool false]) 80 Tryz.underlying49 hi hz0 hz1 hz2 rfl (by decide) (by decide) (.slice adk k capk) (List.replicate k Pt.nil) rfl O2 (some ⟨w2.heap.size, 0, none⟩) 1 [Pt.nil] rfl (fun e => by cases e) V1 ?z0 ?z1 ?_) | go_in)
      case z0 => simp; omega
      case z1 => simp; omega
      intro vZ wZ hownZ hgrowZ _
      have hownZ : FOwn ptEnc 11 47 y.heap.size wZ vZ (List.replicate (k + 1) Pt.nil) := by rw [List.replicate_succ']; exact hownZ
      have ho : ∀ g, (Value.slice adk k capk).ownBlock = some g → y.heap.size ≤ g := fun g e => (O2.lt g e).1
      have BZ : Below w.heap.size w wZ := B2.grown hgrowZ B2.size (fun g e => by have := ho g e; omega)
      have NZ : BBox wZ (w.heap.size + 1) id (.slice adk k capk) := (N1.below (below_new _) N1.lt).keep (hgrowZ.block _ (by have := N1.lt; simp; omega) (fun e => by have := ho _ e.symm; omega))
      have RZ : BBox wZ w.heap.size 0 (.slice none 0 0) := (R1.below (below_new _) R1.lt).keep (hgrowZ.block _ (by have := R1.lt; simp; omega) (fun e => by have := ho _ e.symm; omega))
      have SZ : y.heap.size ≤ wZ.heap.size := by have := hgrowZ.size; simp at this; omega
      obtain ⟨aZ, cZ, hvz⟩ := hownZ.open_
      rw [List.length_replicate] at hvz
      subst hvz
      clear hgrowZ V1 B2 O2 n0 n1 nf N1 R1 O ho hcn
      obtain ⟨⟨q0, q1⟩, qf⟩ := NZ
      have NZ : BBox wZ (w.heap.size + 1) id (.slice adk k capk) := ⟨⟨q0, q1⟩, qf⟩
      have NS : BBox (wZ.setCell ⟨w.heap.size + 1, 1, none⟩ (.slice aZ (k + 1) cZ)) (w.heap.size + 1) id (.slice aZ (k + 1) cZ) := ⟨⟨(pset_else (by decide)).trans q0, pset_same q1⟩, fun i => by rw [World.frozen?_setCell]; exact qf i⟩
      have RS : BBox (wZ.setCell ⟨w.heap.size + 1, 1, none⟩ (.slice aZ (k + 1) cZ)) w.heap.size 0 (.slice none 0 0) := RZ.keep (Below.heap_setCell _ _ _ _ (by show w.heap.size ≠ w.heap.size + 1; omega))
      have OS : FOwn ptEnc 11 47 y.heap.size (wZ.setCell ⟨w.heap.size + 1, 1, none⟩ (.slice aZ (k + 1) cZ)) (.slice aZ (k + 1) cZ) (List.replicate (k + 1) Pt.nil) := hownZ.keep fun g' e => Below.heap_setCell _ _ _ _ (by have := (hownZ.lt g' e).1; show g' ≠ w.heap.size + 1; omega)
      have BS := BZ.setCell (p := ⟨w.heap.size + 1, 1, none⟩) (by show _ ≤ w.heap.size + 1; omega) (.slice aZ (k + 1) cZ)
      clear NZ RZ hownZ BZ
      go_wp2
      go_roundw
      case rel => exact ⟨k + 1, by omega, by go_num, ⟨aZ, cZ, OS, NS⟩, RS, BS, by simpa using SZ⟩
      case measure => simp [intOf]; omega
    · have dl : decide ((k : Int) < t) = false := decide_eq_false hlt
      have hkm : Hid (k = m) := by unfold Hid; have := htm.out; omega
      replace hlt : Hid _ := hlt
      go_wp2_with fail
      go_at_call 117
      refine (minS n 5 wr).mono ?_
      rintro e w2 ⟨rfl, rfl⟩
      rw [← ht.out]
      have hc := bOkS id adk capk (List.replicate k Pt.nil) w2 (by have := O.view.2; exact this) (by rw [List.length_replicate]; omega)
      rw [List.length_replicate, bOk_new, hkm.out, ← hmn.out, ← hkm.out] at hc
      go_wp2_with fail
      go_at_call 91
      refine hc.mono ?_
      rintro e w3 ⟨rfl, k3⟩
      have R3 := R1.below k3 R1.lt
      have N3 := N1.below k3 N1.lt
      have O3 := O.later k3
      have B3 := B1.trans (k3.mono B1.size)
      clear hc k3 n0 n1 nf R1 N1 O
      cases he : nOk id n with
      | false =>
        replace hI : Hid (IV = 0) := by unfold Hid; rw [hI.out]; unfold newI; rw [he]; rfl
        replace hM : Hid (LV = []) := by unfold Hid; rw [hM.out]; unfold newL; rw [he]; rfl
        replace hN : Hid (NV = false) := by unfold Hid; rw [hN.out, he]
        clear he
        have RP := R3.put 0 (.slice none 0 0)
        obtain ⟨⟨r0, r1⟩, rf⟩ := R3
        have BZ := (B3.setCell (p := ⟨w.heap.size, 0, none⟩) (Nat.le_refl w.heap.size) (.int .i64 0)).setCell (p := ⟨w.heap.size, 1, none⟩) (Nat.le_refl w.heap.size) (.slice none 0 0)
        obtain ⟨⟨p0, p1⟩, _⟩ := RP
        go_wp2
        refine bodyPost_ret (v := .tuple #[.agg #[.int .i64 0, .slice none 0 0], .bool false]) (by simp [results, Tryz.results96, go_sem, *]) rfl ⟨none, 0, by rw [hI.out, hM.out, hN.out]; rfl, by rw [hM.out]; exact FOwn.nil, BZ⟩
      | true =>
        have hRl : Hid (LV.length = k) := by unfold Hid; rw [hM.out]; unfold newL; rw [he, if_pos rfl, List.length_replicate, hmt.out he, hkm.out]
        replace hI : Hid (IV = id) := by unfold Hid; rw [hI.out]; unfold newI; rw [he]; rfl
        replace hM : Hid (LV = List.replicate k Pt.nil) := by unfold Hid; rw [hM.out]; unfold newL; rw [he, if_pos rfl, hmt.out he, hkm.out]
        replace hN : Hid (NV = true) := by unfold Hid; rw [hN.out, he]
        clear he hkm
        have RP := R3.put id (.slice adk k capk)
        obtain ⟨⟨r0, r1⟩, rf⟩ := R3
        obtain ⟨⟨n0, n1⟩, nf⟩ := N3
        have BZ := (B3.setCell (p := ⟨w.heap.size, 0, none⟩) (Nat.le_refl w.heap.size) (.int .i64 id)).setCell (p := ⟨w.heap.size, 1, none⟩) (Nat.le_refl w.heap.size) (.slice adk k capk)
        have OZ : FOwn ptEnc 11 47 w.heap.size ((w3.setCell ⟨w.heap.size, 0, none⟩ (.int .i64 id)).setCell ⟨w.heap.size, 1, none⟩ (.slice adk k capk)) (.slice adk k capk) (List.replicate k Pt.nil) := (O3.base (by omega)).keep fun g' e => by
          have := (O3.lt g' e).1
          rw [Below.heap_setCell _ _ _ _ (by show g' ≠ w.heap.size; omega), Below.heap_setCell _ _ _ _ (by show g' ≠ w.heap.size; omega)]
        obtain ⟨⟨p0, p1⟩, _⟩ := RP
        go_wp2
        refine bodyPost_ret (v := .tuple #[.agg #[.int .i64 id, .slice adk k capk], .bool true]) (by simp [results, Tryz.results96, go_sem, *]) rfl ⟨adk, capk, by rw [hI.out, hN.out, hRl.out], by rw [hRl.out, hM.out]; exact OZ, BZ⟩

end Go.Proofs.YthgcbihhdbpbdaaGreatDoor
