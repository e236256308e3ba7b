import Derived.Lib.SliceRun
import Derived.Test.YtnpiljegdiconaaQM9
import Derived.Test.YtnpiljegdiconaaQKIn2
namespace Go.Proofs.Ytnpiljegdiconaa
open Go.ChangeShapes Go.WideShapes Go.ChangeAt Go.RowKit
open Go.ChangeMaps (open_string shut_string)
set_option linter.unusedVariables false
set_option maxRecDepth 100000
set_option maxHeartbeats 1000000 in
theorem copS (id : Int) (ad : Option Addr) (cap : Nat) (L : List Pt) (w : World) (hv : FView ptEnc w ad L) (hl : L.length ≤ 1048576) (hn : ad = none → cap = 0) :
  Calls Try.prog 79 #[.agg #[.int .i64 id, .slice ad L.length cap]] w fun e w' => ∃ ad' cap', e = .returned (.agg #[.int .i64 id, .slice ad' L.length cap']) ∧ FOwn ptEnc 11 119 w.heap.size w' (.slice ad' L.length cap') L ∧ Below w.heap.size w w' := by
 have hB := hv.lt ptEnc_len (by omega)
 obtain ⟨y, hy⟩ := mk_ ((w.alloc (Obj.cells #[.int .i64 id, .slice ad L.length cap] 110)).alloc (Obj.cells #[.int .i64 0, .slice none 0 0] 110))
 have B0 : Below w.heap.size w y := by rw [hy]; exact ((Below.refl _ _).alloc (Nat.le_refl _) _).alloc (by simp) _
 have A0 : BrAt y w.heap.size id (.slice ad L.length cap) := by rw [hy]; constructor <;> simp [go_sem]
 have A1 : BBox y (w.heap.size + 1) 0 (.slice none 0 0) := by rw [hy]; refine ⟨?_, fun i => ?_⟩; constructor <;> simp [go_sem]; simp [go_sem]
 have S0 := A1.lt
 have hv1 := hv.below B0 hB
 obtain ⟨i1, hj, hy0, hy1, hy2⟩ := info_parts ptInfo
 go_enter Try.func79, Try.ntmps79
 go_wp2
 rw [← hy]
 clear hy
 refine wp_region_held (S := fun Y => Below (w.heap.size + 1) y Y) (by kernel_rfl) ?_
 change wpAnyH _ _ _ _ _ _ _ _ (World.drew _)
 have hb0 : Below y.heap.size y y.drew := (Below.refl _ _).drew
 obtain ⟨u0, hy0'⟩ : ∃ y_, y_ = y.drew := ⟨_, rfl⟩
 rw [← hy0'] at hb0 ⊢
 clear hy0'
 have hc0 : Below (w.heap.size + 1) y u0 := hb0.mono (by omega)
 refine tw 0 3 (.pointer (some ⟨w.heap.size, 0, none⟩)) ?_
 refine tw 1 4 (.int .i64 id) ?_ (hy := by intro Y hSw; obtain ⟨X0, X1⟩ := A0.below hSw (by omega); go_simp)
 refine tw 3 6 (.pointer (some ⟨w.heap.size, 1, none⟩)) ?_
 refine tw 4 7 (.slice ad L.length cap) ?_ (hy := by intro Y hSw; obtain ⟨X0, X1⟩ := A0.below hSw (by omega); go_simp)
 refine wpAnyH_all (rs := [2]) (by kernel_rfl) (by simp) ?_
 intro i hi; obtain rfl : i = 2 := by simpa using hi
 refine wpOp_step rfl (fun K hK => ?_)
 rw [if_pos (by kernel_rfl)]
 go_simp
 obtain ⟨u1, hu1⟩ := mk_ (u0.alloc (Obj.cells #[] 119))
 have oE : FOwn ptEnc 11 119 u0.heap.size u1 (.slice (some ⟨u0.heap.size, 0, none⟩) 0 0) ([] : List Pt) := by rw [hu1]; exact FOwn.empty u0
 have kq : Below u0.heap.size u0 u1 := by rw [hu1]; exact below_new _
 have z0 := hb0.size
 have hb1 : Below y.heap.size y u1 := hb0.trans (kq.mono hb0.size)
 have hc1 : Below (w.heap.size + 1) y u1 := hb1.mono (by omega)
 have z1 := kq.size
 rw [← hu1]
 clear hu1
 generalize u0.heap.size = E at oE kq z0 z1 ⊢
 refine hK _ _ ⟨hc1, ?_⟩
 clear hK K hi
 refine wpAnyH_all (rs := [5]) (by kernel_rfl) (by simp) ?_
 intro i hi; obtain rfl : i = 5 := by simpa using hi
 refine wpOp_step rfl (fun K hK => ?_)
 rw [if_pos (by kernel_rfl)]
 refine fapp ptEnc_len ptEnc_ones 8 _ _ 108 rfl rfl E 119 i1 (.agg #[.bool false, .bool false, .int .i64 0, .int .i64 0, .int .i64 0, .int .i64 0, .int .i64 0, .int .i64 0, .int .i64 0, .int .i64 0, .bool false]) 80 Try.underlying108 hj hy0 hy1 hy2 rfl (by decide) (by decide) (.slice (some ⟨E, 0, none⟩) 0 0) ([] : List Pt) rfl oE ad cap L rfl hn (hv1.below hb1 (hv1.lt ptEnc_len (by omega))) (by simp; omega) z1 ?_
 intro vN u2 oN gN _
 replace oN : FOwn ptEnc 11 119 E u2 vN L := oN
 have hb2 : Below y.heap.size y u2 := hb1.grown gN hb1.size (fun j e => Nat.le_trans z0 (oE.lt j e).1)
 have hc2 : Below (w.heap.size + 1) y u2 := hb2.mono (by omega)
 obtain ⟨adN, capN, rfl⟩ := oN.open_
 clear gN
 simp only [List.set_cons_zero, List.set_cons_succ]
 refine hK _ _ ⟨hc2, ?_⟩
 clear hK K hi
 refine tw 6 9 (.agg #[.int .i64 id, .slice adN L.length capN]) ?_
 refine wpAnyH_all (rs := [7]) (by kernel_rfl) (by simp) ?_
 intro i hi; obtain rfl : i = 7 := by simpa using hi
 refine wpOp_step rfl (fun K hK => ?_)
 rw [if_pos (by kernel_rfl)]
 have A2 := A1.below hb2 S0
 have A3 := A2
 obtain ⟨⟨t0, t1⟩, tf⟩ := A2
 go_simp
 clear t0 t1 tf
 obtain ⟨uf, hu⟩ := mk_ ((u2.setCell ⟨w.heap.size + 1, 0, none⟩ (.int .i64 id)).setCell ⟨w.heap.size + 1, 1, none⟩ (.slice adN L.length capN))
 have A4 : BBox uf (w.heap.size + 1) id (.slice adN L.length capN) := by rw [hu]; exact A3.put _ _
 have OF : FOwn ptEnc 11 119 w.heap.size uf (.slice adN L.length capN) L := (oN.base (by omega)).keep fun g e => by
  have := oN.lt g e
  rw [hu, Below.heap_setCell _ _ _ _ (by show g ≠ w.heap.size + 1; omega), Below.heap_setCell _ _ _ _ (by show g ≠ w.heap.size + 1; omega)]
 have BF : Below w.heap.size w uf := by rw [hu]; exact ((B0.trans (hb2.mono B0.size)).setCell (by show _ ≤ w.heap.size + 1; omega) _).setCell (by show _ ≤ w.heap.size + 1; omega) _
 have hbf : Below (w.heap.size + 1) y uf := by rw [hu]; exact (hc2.setCell (Nat.le_refl (w.heap.size + 1)) _).setCell (Nat.le_refl (w.heap.size + 1)) _
 rw [← hu]
 clear hu
 refine hK _ _ ⟨hbf, ?_⟩
 clear hK K hi
 refine wpAnyH_done (by kernel_rfl) ?_ _
 obtain ⟨t0, t1⟩ := A4.at_
 go_wp2
 refine bodyPost_ret (v := .agg #[.int .i64 id, .slice adN L.length capN]) (by simp [results, Try.results79, go_sem, *]) rfl ⟨_, _, rfl, OF, BF⟩
def oI (o : Option Nat) : Int := match o with
 | none => -1
 | some k => (k : Int)
theorem best_no {id : Int} {L : List Pt} {k : Nat} {h : Pt} (hh : L.getD k Pt.nil = h) (hc : cand id h = false) : bestTo id L (k + 1) = bestTo id L k := by
 simp only [bestTo, hh, hc]
 cases bestTo id L k <;> simp
theorem best_none {id : Int} {L : List Pt} {k : Nat} {h : Pt} (hb : bestTo id L k = none) (hh : L.getD k Pt.nil = h) (hc : cand id h = true) : bestTo id L (k + 1) = some k := by
 simp only [bestTo, hb, hh, hc]
 simp
theorem best_some {id : Int} {L : List Pt} {k j : Nat} {h g : Pt} {t : Bool} (hb : bestTo id L k = some j) (hh : L.getD k Pt.nil = h) (hg : L.getD j Pt.nil = g) (hc : cand id h = true) (ht : vBetter h g = t) : bestTo id L (k + 1) = if t then some k else some j := by
 simp only [bestTo, hb, hh, hg, hc, ht]
 simp
structure VBox (w : World) (q : Nat) (r c b p : Int) : Prop where
 at_ : VecAt w q r c b p
 fr : ∀ i, w.frozen? ⟨q, i, none⟩ = false
theorem VBox.lt {w : World} {q : Nat} {r c b p : Int} (h : VBox w q r c b p) : q < w.heap.size := World.block_lt_of_cell? w _ h.at_.1
theorem VBox.below {w w' : World} {q n : Nat} {r c b p : Int} (h : VBox w q r c b p) (k : Below n w w') (hq : q < n) : VBox w' q r c b p :=
 ⟨h.at_.below k hq, fun i => (World.frozen?_of_block (a := ⟨q, i, none⟩) (k.block q hq)).trans (h.fr i)⟩
structure Bar (g B : Nat) (a w : World) : Prop where
 size : a.heap.size ≤ w.heap.size
 block : ∀ k, k < B → k ≠ g → w.heap[k]? = a.heap[k]?
theorem Bar.of {g B : Nat} {a w : World} (h : Below B a w) : Bar g B a w := ⟨h.size, fun k hk _ => h.block k hk⟩
theorem Bar.putAll {g B o : Nat} {a w : World} (vs : List Value) (h : Bar g B a w) : Bar g B a (putAll w g o vs) :=
 ⟨by rw [size_putAll]; exact h.size, fun k hk hne => by rw [heap_putAll _ _ _ _ hne]; exact h.block k hk hne⟩
theorem PtAt.bar {g B q : Nat} {a w : World} {x : Pt} (h : PtAt a q x) (k : Bar g B a w) (hq : q < B) (hne : q ≠ g) : PtAt w q x := h.keep (k.block q hq hne)
theorem BrAt.bar {g B q : Nat} {a w : World} {id : Int} {v : Value} (h : BrAt a q id v) (k : Bar g B a w) (hq : q < B) (hne : q ≠ g) : BrAt w q id v := h.keep (k.block q hq hne)
theorem turnR_up (x : Pt) (role : Int) : turnR x role = turnUp x role := by
 unfold turnUp
 cases hu : x.up
 ·
  unfold turnR; rw [hu]; simp
 ·
  simp
theorem FOwn.row {X : Type} {enc : X → List Value} {n : Nat} {T : TypeId} {base : Nat} {w : World} {ad : Option Addr} {len cap : Nat} {L : List X} (h : FOwn enc n T base w (.slice ad len cap) L) (h0 : 0 < L.length) : ∃ g, ad = some ⟨g, 0, none⟩ ∧ base ≤ g ∧ g < w.heap.size := by
 rcases h.2 with ⟨_, q⟩ | ⟨g, c, cur, q, _⟩
 ·
  omega
 ·
  simp only [Value.slice.injEq] at q
  obtain ⟨rfl, rfl, rfl⟩ := q
  have := h.lt g rfl
  exact ⟨g, rfl, this⟩
end Go.Proofs.Ytnpiljegdiconaa
namespace Go.Proofs.Ytnpiljegdiconaa
open Go.ChangeShapes Go.WideShapes Go.ChangeAt Go.RowKit
open Go.ChangeMaps (open_string shut_string)
set_option linter.unusedVariables false
set_option maxRecDepth 100000
structure Ou where
 k : Int
 pt : Int
 r : Int
 c : Int
 b : Int
 p : Int
 h : Int
 on : Bool
def Ou.nil : Ou := ⟨0, 0, 0, 0, 0, 0, 0, false⟩
def ouEnc (x : Ou) : List Value := [.int .i64 x.k, .int .i64 x.pt, .int .i64 x.r, .int .i64 x.c, .int .i64 x.b, .int .i64 x.p, .int .i64 x.h, .bool x.on]
theorem ouEnc_len (x : Ou) : (ouEnc x).length = 8 := rfl
theorem ouEnc_ones (L : List Ou) : ∀ u ∈ fcells ouEnc L, u.oneCell' = true := by
 induction L with
 | nil => intro u h; cases h
 | cons x L ih =>
  intro u h
  simp only [fcells, ouEnc, List.mem_append, List.mem_cons, List.not_mem_nil, or_false] at h
  rcases h with (rfl | rfl | rfl | rfl | rfl | rfl | rfl | rfl) | h
  ·
   rfl
  ·
   rfl
  ·
   rfl
  ·
   rfl
  ·
   rfl
  ·
   rfl
  ·
   rfl
  ·
   rfl
  ·
   exact ih u h
structure OuAtO (w : World) (b o : Nat) (x : Ou) : Prop where
 c0 : w.cell? ⟨b, o, none⟩ = some (.int .i64 x.k)
 c1 : w.cell? ⟨b, o + 1, none⟩ = some (.int .i64 x.pt)
 c2 : w.cell? ⟨b, o + 2, none⟩ = some (.int .i64 x.r)
 c3 : w.cell? ⟨b, o + 3, none⟩ = some (.int .i64 x.c)
 c4 : w.cell? ⟨b, o + 4, none⟩ = some (.int .i64 x.b)
 c5 : w.cell? ⟨b, o + 5, none⟩ = some (.int .i64 x.p)
 c6 : w.cell? ⟨b, o + 6, none⟩ = some (.int .i64 x.h)
 c7 : w.cell? ⟨b, o + 7, none⟩ = some (.bool x.on)
theorem ouAtO_of {w : World} {b o : Nat} {x : Ou} (h : ∀ j v, (ouEnc x)[j]? = some v → w.cell? ⟨b, o + j, none⟩ = some v) : OuAtO w b o x := ⟨h 0 _ rfl, h 1 _ rfl, h 2 _ rfl, h 3 _ rfl, h 4 _ rfl, h 5 _ rfl, h 6 _ rfl, h 7 _ rfl⟩
theorem ouInfo : (Try.prog.info? 135).map (fun i => (i.zero, i.size, i.bytes)) = some (some (.agg #[.int .i64 0, .int .i64 0, .int .i64 0, .int .i64 0, .int .i64 0, .int .i64 0, .int .i64 0, .bool false]), 8, 64) := by kernel_rfl
theorem FView.oneO (w : World) (t : TypeId) (x : Ou) : FView ouEnc (w.alloc (Obj.cells #[.int .i64 x.k, .int .i64 x.pt, .int .i64 x.r, .int .i64 x.c, .int .i64 x.b, .int .i64 x.p, .int .i64 x.h, .bool x.on] t)) (some ⟨w.heap.size, 0, none⟩) [x] := by
 intro _
 refine ⟨w.heap.size, 0, rfl, fun j v hv => ?_⟩
 have hj : j < 8 := by
  have := (List.getElem?_eq_some_iff.1 hv).1
  simpa [fcells, ouEnc] using this
 rcases (by omega : j = 0 ∨ j = 1 ∨ j = 2 ∨ j = 3 ∨ j = 4 ∨ j = 5 ∨ j = 6 ∨ j = 7) with rfl | rfl | rfl | rfl | rfl | rfl | rfl | rfl
 ·
  cases hv; simp [go_sem]
 ·
  cases hv; simp [go_sem]
 ·
  cases hv; simp [go_sem]
 ·
  cases hv; simp [go_sem]
 ·
  cases hv; simp [go_sem]
 ·
  cases hv; simp [go_sem]
 ·
  cases hv; simp [go_sem]
 ·
  cases hv; simp [go_sem]
def gateO (i : Nat) (on : Bool) : Ou := ⟨2, i, 0, 0, 0, 0, 0, on⟩
def gatesTo (L M : List Pt) : Nat → List Ou
 | 0 => []
 | n + 1 => gatesTo L M n ++ if (M.getD n Pt.nil).op = (L.getD n Pt.nil).op then [] else [gateO n (M.getD n Pt.nil).op]
def toldO (id : Int) (M : List Pt) (i : Nat) : Ou := ⟨1, i, (ownR id M i).1, (ownR id M i).2.1, (ownR id M i).2.2.1, (ownR id M i).2.2.2, hopsR id M, false⟩
def toldTo (id : Int) (M : List Pt) : Nat → List Ou
 | 0 => []
 | n + 1 => toldTo id M n ++ if (M.getD n Pt.nil).ro = 2 then [toldO id M n] else []
theorem gates_len (L M : List Pt) (n : Nat) : (gatesTo L M n).length ≤ n := by
 induction n with
 | zero => simp [gatesTo]
 | succ n ih => simp only [gatesTo, List.length_append]; split <;> simp <;> omega
theorem told_len (id : Int) (M : List Pt) (n : Nat) : (toldTo id M n).length ≤ n := by
 induction n with
 | zero => simp [toldTo]
 | succ n ih => simp only [toldTo, List.length_append]; split <;> simp <;> omega
theorem gates_yes {L M : List Pt} {n : Nat} {h g : Pt} (hh : M.getD n Pt.nil = h) (hg : L.getD n Pt.nil = g) (e : h.op = g.op) : gatesTo L M (n + 1) = gatesTo L M n := by
 simp only [gatesTo, hh, hg]; rw [if_pos e, List.append_nil]
theorem gates_no {L M : List Pt} {n : Nat} {h g : Pt} (hh : M.getD n Pt.nil = h) (hg : L.getD n Pt.nil = g) (e : h.op ≠ g.op) : gatesTo L M (n + 1) = gatesTo L M n ++ [gateO n h.op] := by
 simp only [gatesTo, hh, hg]; rw [if_neg e]
theorem told_yes {id : Int} {M : List Pt} {n : Nat} {h : Pt} (hh : M.getD n Pt.nil = h) (e : h.ro = 2) : toldTo id M (n + 1) = toldTo id M n ++ [toldO id M n] := by
 simp only [toldTo, hh]; rw [if_pos e]
theorem told_no {id : Int} {M : List Pt} {n : Nat} {h : Pt} (hh : M.getD n Pt.nil = h) (e : h.ro ≠ 2) : toldTo id M (n + 1) = toldTo id M n := by
 simp only [toldTo, hh]; rw [if_neg e, List.append_nil]
end Go.Proofs.Ytnpiljegdiconaa
namespace Go.Proofs.Ytnpiljegdiconaa
open Go.ChangeShapes Go.WideShapes Go.ChangeAt Go.RowKit
open Go.ChangeMaps (open_string shut_string)
set_option linter.unusedVariables false
set_option maxRecDepth 100000
def afterL (id : Int) (L : List Pt) (x : Ik) : List Pt :=
 if x.k = 1 then decideR id (L.set x.q.toNat (claimR (L.getD x.q.toNat Pt.nil) x.r x.c x.b x.p x.h))
 else if x.k = 2 then decideR id (L.map tickP)
 else if (L.getD x.q.toNat Pt.nil).up = x.up then L else decideR id (L.set x.q.toNat (linkP x.up))
theorem afterL_len (id : Int) (L : List Pt) (x : Ik) : (afterL id L x).length = L.length := by
 unfold afterL
 split
 ·
  rw [decideR_len, List.length_set]
 ·
  split
  ·
   rw [decideR_len, List.length_map]
  ·
   split
   ·
    rfl
   ·
    rw [decideR_len, List.length_set]
end Go.Proofs.Ytnpiljegdiconaa
namespace Go.Proofs.Ytnpiljegdiconaa
open Go.ChangeShapes Go.WideShapes Go.ChangeAt Go.RowKit
open Go.ChangeMaps (open_string shut_string)
set_option linter.unusedVariables false
set_option maxRecDepth 100000
theorem join_region {P : Program} {reg : Code} {K : Act → World → Prop} {Q : Exit → Act → World → Prop} {l : List Value} {ds : List Deferred} {W : World} (R : List Value → List Value → World → Prop) (h1 : ∀ l' W', R l l' W' → K ⟨l'.toArray, ds⟩ W') (h2 : ∀ K2 : Act → World → Prop, Hid (∀ l' W', R l l' W' → K2 ⟨l'.toArray, ds⟩ W') → Code.wp P reg (Exit.then K2 Q) ⟨l.toArray, ds⟩ W) : Code.wp P reg (Exit.then K Q) ⟨l.toArray, ds⟩ W := h2 K h1
def goes (id : Int) (L : List Pt) (x : Ik) : Bool := bOk id L && (inOk x && decide (0 ≤ x.q ∧ x.q < (L.length : Int)))
def reactL (id : Int) (L : List Pt) (x : Ik) : List Pt := if goes id L x then afterL id L x else L
def reactO (id : Int) (L : List Pt) (x : Ik) : List Ou := if goes id L x then gatesTo L (afterL id L x) L.length ++ (if x.k = 2 then toldTo id (afterL id L x) L.length else []) else []
theorem reactL_len (id : Int) (L : List Pt) (x : Ik) : (reactL id L x).length = L.length := by
 unfold reactL
 split
 ·
  exact afterL_len id L x
 ·
  rfl
theorem inOk_q {x : Ik} (h : inOk x = true) : 0 ≤ x.q ∧ x.q ≤ 3 := by
 unfold inOk at h
 split at h
 ·
  simp only [Bool.and_eq_true, decide_eq_true_eq] at h; exact h.1
 ·
  split at h
  ·
   simp only [Bool.and_eq_true, decide_eq_true_eq] at h; exact h.1
  ·
   split at h
   ·
    simp only [decide_eq_true_eq] at h; omega
   ·
    cases h
theorem inOk_k {x : Ik} (h : inOk x = true) : x.k = 1 ∨ x.k = 2 ∨ x.k = 3 := by
 unfold inOk at h
 split at h
 ·
  exact .inl (by assumption)
 ·
  split at h
  ·
   exact .inr (.inr (by assumption))
  ·
   split at h
   ·
    exact .inr (.inl (by assumption))
   ·
    cases h
end Go.Proofs.Ytnpiljegdiconaa
namespace Go.Proofs.Ytnpiljegdiconaa
open Go.ChangeShapes Go.WideShapes Go.ChangeAt Go.RowKit
open Go.ChangeMaps (open_string shut_string)
set_option linter.unusedVariables false
set_option maxRecDepth 100000
end Go.Proofs.Ytnpiljegdiconaa
