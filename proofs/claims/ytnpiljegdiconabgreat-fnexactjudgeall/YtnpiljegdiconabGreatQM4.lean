import Derived.Test.YtnpiljegdiconabGreatQKWRe3
namespace Go.Proofs.YtnpiljegdiconabGreat
open Go.ChangeShapes Go.WideShapes Go.ChangeAt Go.RowKit
open Go.ChangeMaps (open_string shut_string)
set_option linter.unusedVariables false
set_option maxRecDepth 100000
structure Mi where
 up : Bool
 li : Int
 ep : Int
 lg : List Ik
 sd : Int
 ac : Int
 al : Int
def numB (v : Int) : Bool := decide (0 ≤ v ∧ v ≤ 100000)
def insB (X : List Ik) : Bool := X.all inOk && decide (X.length ≤ 60)
def miOk (m : Mi) : Bool :=
 numB m.li && (numB m.ep && (numB m.al && (insB m.lg && (decide (0 ≤ m.sd ∧ m.sd ≤ (m.lg.length : Int)) && (decide (0 ≤ m.ac ∧ m.ac ≤ (m.lg.length : Int)) && (m.up || (decide (m.ep = 0) && (decide (m.lg.length = 0) && decide (m.al = 0)))))))))
structure Rg where
 ep : Int
 ow : Int
 pa : Int
def rgOk (r : Rg) : Bool := decide (1 ≤ r.ep ∧ r.ep ≤ 100000) && (decide (0 ≤ r.ow ∧ r.ow ≤ 1) && numB r.pa)
def mindsB (r : Rg) (s : Int) (m : Mi) : Bool := rgOk r && (miOk m && (m.up && (decide (s = r.ow) && decide (m.ep = r.ep))))
theorem minds_is {r : Rg} {s : Int} {m : Mi} : mindsB r s m = true ↔ rgOk r = true ∧ miOk m = true ∧ m.up = true ∧ s = r.ow ∧ m.ep = r.ep := by
 unfold mindsB
 simp only [Bool.and_eq_true, decide_eq_true_eq]
theorem miOk_iff {m : Mi} : miOk m = true ↔ numB m.li = true ∧ numB m.ep = true ∧ numB m.al = true ∧ insB m.lg = true ∧ (0 ≤ m.sd ∧ m.sd ≤ (m.lg.length : Int)) ∧ (0 ≤ m.ac ∧ m.ac ≤ (m.lg.length : Int)) ∧ (m.up = true ∨ m.ep = 0 ∧ m.lg.length = 0 ∧ m.al = 0) := by
 unfold miOk
 simp only [Bool.and_eq_true, Bool.or_eq_true, decide_eq_true_eq]
def nOk (id n : Int) : Bool := decide (1 ≤ id ∧ id ≤ 9) && decide (1 ≤ n ∧ n ≤ 4)
theorem bOk_new {id : Int} {k : Nat} : bOk id (List.replicate k Pt.nil) = nOk id k := by
 unfold bOk nOk
 have e : (List.replicate k Pt.nil).all pOk = true := by
  rw [List.all_eq_true]; intro x hx; rw [List.eq_of_mem_replicate hx]; exact pOk_nil
 rw [e, List.length_replicate, Bool.and_true]
 congr 1
 exact decide_eq_decide.2 (by omega)
def newI (id n : Int) : Int := if nOk id n then id else 0
def newL (id n : Int) : List Pt := if nOk id n then List.replicate n.toNat Pt.nil else []
theorem made_nil {n : Nat} (h : n ≤ 4) : (madeCells (Value.cells (.agg #[.bool false, .bool false, .int .i64 0, .int .i64 0, .int .i64 0, .int .i64 0, .int .i64 0, .int .i64 0, .int .i64 0, .int .i64 0, .bool false])) (n * 11)).toList = fcells ptEnc (List.replicate n Pt.nil) := by
 rcases (by omega : n = 0 ∨ n = 1 ∨ n = 2 ∨ n = 3 ∨ n = 4) with rfl | rfl | rfl | rfl | rfl
 rotate_left
 rotate_left
 rotate_left
 rotate_left
 rotate_left
 all_goals
  simp only [madeCells, Array.toList_map, Array.toList_range]; rfl
theorem FView.one (w : World) (t : TypeId) (x : Pt) : FView ptEnc (w.alloc (Obj.cells #[.bool x.up, .bool x.has, .int .i64 x.r, .int .i64 x.c, .int .i64 x.b, .int .i64 x.p, .int .i64 x.h, .int .i64 x.l, .int .i64 x.ro, .int .i64 x.wa, .bool x.op] t)) (some ⟨w.heap.size, 0, none⟩) [x] := by
 intro _
 refine ⟨w.heap.size, 0, rfl, fun j v hv => ?_⟩
 have hj : j < 11 := by
  have := (List.getElem?_eq_some_iff.1 hv).1
  simpa [fcells, ptEnc] using this
 rcases (by omega : j = 0 ∨ j = 1 ∨ j = 2 ∨ j = 3 ∨ j = 4 ∨ j = 5 ∨ j = 6 ∨ j = 7 ∨ j = 8 ∨ j = 9 ∨ j = 10) with rfl | rfl | rfl | rfl | rfl | rfl | rfl | rfl | rfl | rfl | rfl
 rotate_left
 rotate_left
 rotate_left
 rotate_left
 rotate_left
 rotate_left
 rotate_left
 rotate_left
 rotate_left
 rotate_left
 rotate_left
 all_goals
  cases hv; simp [go_sem]
theorem minS (a b : Int) (w : World) : Calls Tryz.prog 72 #[.int .i64 a, .int .i64 b] w fun e w' => e = .returned (.int .i64 (if a < b then a else b)) ∧ w' = w := by
 by_cases h : a < b
 ·
  rw [if_pos h]
  have d : decide (a < b) = true := decide_eq_true h
  clear h
  go_enter Tryz.func72, Tryz.ntmps72
  go_wp2
  go_ret
  exact ⟨rfl, rfl⟩
 ·
  rw [if_neg h]
  have d : decide (a < b) = false := decide_eq_false h
  clear h
  go_enter Tryz.func72, Tryz.ntmps72
  go_wp2
  go_ret
  exact ⟨rfl, rfl⟩
set_option maxHeartbeats 2000000 in
theorem newBI (id n : Int) (w : World) :
  Calls Tryz.prog 68 #[.int .i64 id, .int .i64 n] w fun e w' => ∃ ad' cap', e = .returned (.tuple #[.agg #[.int .i64 (newI id n), .slice ad' (newL id n).length cap'], .bool (nOk id n)]) ∧ FOwn ptEnc 11 113 w.heap.size w' (.slice ad' (newL id n).length cap') (newL id n) ∧ Below w.heap.size w w' := by
 obtain ⟨i0, hi, hz0, hz1, hz2⟩ := info_parts ptInfo
 obtain ⟨y, hy⟩ := mk_ (w.alloc (Obj.cells #[.int .i64 0, .slice none 0 0] 69))
 have B0 : Below w.heap.size w y := by rw [hy]; exact below_new _
 have R0 : BBox y w.heap.size 0 (.slice none 0 0) := by rw [hy]; exact BBox.new w _ _ _
 have S0 := R0.lt
 obtain ⟨IV, hI⟩ := mk_ (newI id n)
 obtain ⟨LV, hM⟩ := mk_ (newL id n)
 obtain ⟨NV, hN⟩ := mk_ (nOk id n)
 rw [← hI, ← hM, ← hN]
 by_cases hn0 : 0 ≤ n ∧ n ≤ 4
 rotate_left
 ·
  have e : nOk id n = false := by unfold nOk; rw [decide_eq_false (show ¬ (1 ≤ n ∧ n ≤ 4) by omega), Bool.and_false]
  replace hI : Hid (IV = 0) := by unfold Hid; rw [hI]; unfold newI; rw [e]; rfl
  replace hM : Hid (LV = []) := by unfold Hid; rw [hM]; unfold newL; rw [e]; rfl
  replace hN : Hid (NV = false) := by unfold Hid; rw [hN, e]
  by_cases h1 : n < 0
  focus
   have d1 : decide (n < 0) = true := decide_eq_true h1
  rotate_left
  focus
   have d1 : decide (n < 0) = false := decide_eq_false h1
   have d2 : decide (4 < n) = true := decide_eq_true (by omega)
  rotate_left
  all_goals
   clear h1 hn0 e
   go_enter Tryz.func68, Tryz.ntmps68
   go_upto_region 2 with fail
   rw [← hy]
   clear hy
   have RP := R0.put 0 (.slice none 0 0)
   obtain ⟨⟨r0, r1⟩, rf⟩ := R0
   have BZ := (B0.setCell (p := ⟨w.heap.size, 0, none⟩) (Nat.le_refl w.heap.size) (.int .i64 0)).setCell (p := ⟨w.heap.size, 1, none⟩) (Nat.le_refl w.heap.size) (.slice none 0 0)
   obtain ⟨⟨p0, p1⟩, _⟩ := RP
   go_wp2
   refine bodyPost_ret (v := .tuple #[.agg #[.int .i64 0, .slice none 0 0], .bool false]) (by simp [results, Tryz.results68, go_sem, *]) rfl ⟨none, 0, by rw [hI.out, hM.out, hN.out]; rfl, by rw [hM.out]; exact FOwn.nil, BZ⟩
 obtain ⟨k, rfl⟩ : ∃ k : Nat, n = (k : Int) := ⟨n.toNat, by omega⟩
 have hk : k ≤ 4 := by omega
 have d1 : decide ((k : Int) < 0) = false := decide_eq_false (by omega)
 have d2 : decide (4 < (k : Int)) = false := decide_eq_false (by omega)
 clear hn0
 go_enter Tryz.func68, Tryz.ntmps68
 go_upto_region 3 with fail
 rw [← hy]
 clear hy
 go_wp2_with (first | (refine wpList_make_full _ rfl _ _ 67 rfl y.heap.size 113 i0 (.agg #[.bool false, .bool false, .int .i64 0, .int .i64 0, .int .i64 0, .int .i64 0, .int .i64 0, .int .i64 0, .int .i64 0, .int .i64 0, .bool false]) 11 Tryz.underlying67 hi hz0 hz1 .i64 .i64 _ _ k rfl rfl rfl rfl ?c1 ?c2 ?c3 ?_))
 case c1 => rw [hz2]; omega
 case c2 => unfold maxLen; omega
 case c3 => exact Nat.le_refl _
 intro w1 hown hgrow
 have O1 : FOwn ptEnc 11 113 y.heap.size w1 (.slice (some ⟨y.heap.size, 0, none⟩) k k) (List.replicate k Pt.nil) := by
  unfold FOwn
  rw [List.length_replicate, ← made_nil hk]
  exact hown
 have k1 : Below y.heap.size y w1 := (Below.refl _ _).grown hgrow (Nat.le_refl _) (by simp)
 clear hown hgrow
 have R1 := R0.below k1 S0
 have B1 := B0.trans (k1.mono B0.size)
 have S1 := R1.lt
 have gl := (O1.lt y.heap.size rfl).2
 obtain ⟨y2, hy2⟩ := mk_ (w1.alloc (Obj.cells #[.int .i64 id, .slice (some ⟨y.heap.size, 0, none⟩) k k] 69))
 have kn : Below w1.heap.size w1 y2 := by rw [hy2]; exact below_new _
 have A2 : BrAt y2 w1.heap.size id (.slice (some ⟨y.heap.size, 0, none⟩) k k) := by rw [hy2]; exact BrAt.new w1 _ _ _
 have R2 := R1.below kn S1
 have O2 := O1.later kn
 have B2 := B1.trans (kn.mono B1.size)
 have S2 := A2.lt
 go_upto_region 4 with fail
 rw [← hy2]
 clear hy2 kn R0 R1 O1 k1 B0 B1
 generalize y.heap.size = g at S0 O2 gl A2 ⊢
 generalize w1.heap.size = Q at S1 gl A2 S2 ⊢
 obtain ⟨a0, a1⟩ := A2
 have A2 : BrAt y2 Q id (.slice (some ⟨g, 0, none⟩) k k) := ⟨a0, a1⟩
 go_wp2_with fail
 go_at_call 90
 clear a0 a1
 obtain ⟨Rk, hRk⟩ := mk_ (List.replicate k Pt.nil)
 rw [← hRk] at O2
 have hRl : Rk.length = k := by rw [hRk, List.length_replicate]
 have hc := bOkI id (some ⟨g, 0, none⟩) k Rk y2 (by have := O2.view.2; exact this) (by omega)
 rw [hRl] at hc
 refine hc.mono ?_
 rintro e w3 ⟨rfl, k3⟩
 have B3 := B2.trans (k3.mono B2.size)
 have A3 := A2.below k3 S2
 have R3 := R2.below k3 R2.lt
 have O3 := O2.later k3
 rw [hRk, bOk_new]
 clear hc k3 A2 R2 O2 B2
 cases he : nOk id (k : Int) with
 | false =>
  replace hI : Hid (IV = 0) := by unfold Hid; rw [hI]; unfold newI; rw [he]; rfl
  replace hM : Hid (LV = []) := by unfold Hid; rw [hM]; unfold newL; rw [he]; rfl
  replace hN : Hid (NV = false) := by unfold Hid; rw [hN, he]
  clear he hRk hRl
  have RP := R3.put 0 (.slice none 0 0)
  obtain ⟨⟨r0, r1⟩, rf⟩ := R3
  have BZ := (B3.setCell (p := ⟨w.heap.size, 0, none⟩) (Nat.le_refl w.heap.size) (.int .i64 0)).setCell (p := ⟨w.heap.size, 1, none⟩) (Nat.le_refl w.heap.size) (.slice none 0 0)
  obtain ⟨⟨p0, p1⟩, _⟩ := RP
  go_wp2
  refine bodyPost_ret (v := .tuple #[.agg #[.int .i64 0, .slice none 0 0], .bool false]) (by simp [results, Tryz.results68, go_sem, *]) rfl ⟨none, 0, by rw [hI.out, hM.out, hN.out]; rfl, by rw [hM.out]; exact FOwn.nil, BZ⟩
 | true =>
  replace hI : Hid (IV = id) := by unfold Hid; rw [hI]; unfold newI; rw [he]; rfl
  replace hM : Hid (LV = Rk) := by unfold Hid; rw [hM, hRk]; unfold newL; rw [he]; rfl
  replace hN : Hid (NV = true) := by unfold Hid; rw [hN, he]
  replace hRl : Hid _ := hRl
  clear he hRk
  have RP := R3.put id (.slice (some ⟨g, 0, none⟩) k k)
  obtain ⟨⟨r0, r1⟩, rf⟩ := R3
  obtain ⟨a0, a1⟩ := A3
  have BZ := (B3.setCell (p := ⟨w.heap.size, 0, none⟩) (Nat.le_refl w.heap.size) (.int .i64 id)).setCell (p := ⟨w.heap.size, 1, none⟩) (Nat.le_refl w.heap.size) (.slice (some ⟨g, 0, none⟩) k k)
  have OZ : FOwn ptEnc 11 113 w.heap.size ((w3.setCell ⟨w.heap.size, 0, none⟩ (.int .i64 id)).setCell ⟨w.heap.size, 1, none⟩ (.slice (some ⟨g, 0, none⟩) k k)) (.slice (some ⟨g, 0, none⟩) k k) Rk := (O3.base (by omega)).keep fun g' e => by
   obtain rfl : g = g' := by simpa [Value.ownBlock] using e
   rw [Below.heap_setCell _ _ _ _ (by show g ≠ w.heap.size; omega), Below.heap_setCell _ _ _ _ (by show g ≠ w.heap.size; omega)]
  obtain ⟨⟨p0, p1⟩, _⟩ := RP
  go_wp2
  refine bodyPost_ret (v := .tuple #[.agg #[.int .i64 id, .slice (some ⟨g, 0, none⟩) k k], .bool true]) (by simp [results, Tryz.results68, go_sem, *]) rfl ⟨some ⟨g, 0, none⟩, k, by rw [hI.out, hM.out, hN.out, hRl.out], by rw [hM.out, hRl.out]; exact OZ, BZ⟩
theorem react_not {id : Int} {L : List Pt} {x : Ik} (h : bOk id L = false) : reactL id L x = L ∧ reactO id L x = [] := by
 unfold reactL reactO goes
 simp [h]
def ofL (id : Int) (L : List Pt) (X : List Ik) : List Pt := X.foldl (reactL id) L
theorem ofL_app (id : Int) (L : List Pt) (X Y : List Ik) : ofL id L (X ++ Y) = ofL id (ofL id L X) Y := by
 unfold ofL; rw [List.foldl_append]
theorem ofL_len (id : Int) (X : List Ik) : ∀ L : List Pt, (ofL id L X).length = L.length := by
 induction X with
 | nil => intro L; rfl
 | cons x X ih => intro L; show (ofL id (reactL id L x) X).length = _; rw [ih, reactL_len]
theorem ofL_not {id : Int} (X : List Ik) : ∀ {L : List Pt}, bOk id L = false → ofL id L X = L := by
 induction X with
 | nil => intro L _; rfl
 | cons x X ih => intro L h; show ofL id (reactL id L x) X = L; rw [(react_not h).1]; exact ih h
theorem ofL_step (id : Int) (L : List Pt) (X : List Ik) (d : Ik) {k : Nat} (hk : k < X.length) : ofL id L (X.take (k + 1)) = reactL id (ofL id L (X.take k)) (X.getD k d) := by
 rw [List.take_add_one, ofL_app]
 have e : X[k]?.toList = [X.getD k d] := by simp [List.getD, hk]
 rw [e]; rfl
def ikN : Ik := ⟨0, 0, 0, 0, 0, 0, 0, false⟩
def Mi.nil : Mi := ⟨false, 0, 0, [], 0, 0, 0⟩
structure Wi where
 fr : Int
 ak : Bool
 li : Int
 n : Int
 x : Ik
structure Bx where
 id : Int
 po : Int
 rg : Rg
 two : List Mi
 net : List Wi
 ga : List Bool
 ln : List Ik
 sd : List Ou
def inNil (x : Ik) : Bool := decide (x.k = 0 ∧ x.q = 0 ∧ x.r = 0 ∧ x.c = 0 ∧ x.b = 0 ∧ x.p = 0 ∧ x.h = 0 ∧ x.up = false)
def wiOk (w : Wi) : Bool := decide (0 ≤ w.fr ∧ w.fr ≤ 1) && (numB w.li && (numB w.n && (if w.ak then inNil w.x else inOk w.x)))
def mOf (x : Bx) (s : Int) : Mi := x.two.getD s.toNat Mi.nil
def bxOk (x : Bx) : Bool :=
 nOk x.id x.po && (rgOk x.rg && (decide (x.two.length = 2) && (miOk (mOf x 0) && (miOk (mOf x 1) && (x.net.all wiOk && (decide (x.net.length ≤ 20) && (decide ((x.ga.length : Int) = x.po) && (insB x.ln && decide (x.sd.length ≤ 40)))))))))
theorem bxOk_is {x : Bx} : bxOk x = true ↔ nOk x.id x.po = true ∧ rgOk x.rg = true ∧ x.two.length = 2 ∧ miOk (mOf x 0) = true ∧ miOk (mOf x 1) = true ∧ x.net.all wiOk = true ∧ x.net.length ≤ 20 ∧ (x.ga.length : Int) = x.po ∧ insB x.ln = true ∧ x.sd.length ≤ 40 := by
 unfold bxOk
 simp only [Bool.and_eq_true, decide_eq_true_eq]
def mindsX (x : Bx) (s : Int) : Bool := decide (0 ≤ s ∧ s < (x.two.length : Int)) && mindsB x.rg s (mOf x s)
def lastS (O : List Ou) : List Ou := O.drop (O.length - 40)
theorem lastS_len (O : List Ou) : (lastS O).length ≤ 40 := by unfold lastS; rw [List.length_drop]; omega
theorem lastS_app (O P : List Ou) : lastS (lastS O ++ P) = lastS (O ++ P) := by
 unfold lastS
 rw [List.length_append, List.length_append, List.length_drop, List.drop_append, List.drop_append, List.drop_drop, List.length_drop]
 congr 2 <;> omega
set_option maxHeartbeats 4000000 in
theorem newBS (id n : Int) (w : World) :
  Calls Tryz.prog 41 #[.int .i64 id, .int .i64 n] w fun e w' => ∃ ad' cap', e = .returned (.tuple #[.agg #[.int .i64 (newI id n), .slice ad' (newL id n).length cap'], .bool (nOk id n)]) ∧ FOwn ptEnc 11 113 w.heap.size w' (.slice ad' (newL id n).length cap') (newL id n) ∧ Below w.heap.size w w' := by
 obtain ⟨i0, hi, hz0, hz1, hz2⟩ := info_parts ptInfo
 obtain ⟨y, hy⟩ := mk_ ((w.alloc (Obj.cells #[.int .i64 0, .slice none 0 0] 69)).alloc (Obj.cells #[.int .i64 id, .slice none 0 0] 69))
 have B0 : Below w.heap.size w y := by rw [hy]; exact ((Below.refl _ _).alloc (Nat.le_refl _) _).alloc (by simp) _
 have R0 : BBox y w.heap.size 0 (.slice none 0 0) := by rw [hy]; refine ⟨?_, fun i => ?_⟩; constructor <;> simp [go_sem]; simp [go_sem]
 have N0 : BBox y (w.heap.size + 1) id (.slice none 0 0) := by rw [hy]; refine ⟨?_, fun i => ?_⟩; constructor <;> simp [go_sem]; simp [go_sem]
 have S0 := N0.lt
 obtain ⟨IV, hI⟩ := mk_ (newI id n)
 obtain ⟨LV, hM⟩ := mk_ (newL id n)
 obtain ⟨NV, hN⟩ := mk_ (nOk id n)
 rw [← hI, ← hM, ← hN]
 obtain ⟨m, hm⟩ : ∃ m : Nat, m = (if n < 5 then n else 5).toNat := ⟨_, rfl⟩
 have hm5 : m ≤ 5 := by rw [hm]; split <;> omega
 have hmn : nOk id n = nOk id (m : Int) := by
  unfold nOk
  congr 1
  apply decide_eq_decide.2
  rw [hm]
  split <;> omega
 have hmt : nOk id n = true → n.toNat = m := by
  intro h
  unfold nOk at h
  simp only [Bool.and_eq_true, decide_eq_true_eq] at h
  rw [hm, if_pos (by omega)]
 obtain ⟨t, ht⟩ : ∃ t : Int, t = (if n < 5 then n else 5) := ⟨_, rfl⟩
 have htm : t ≤ (m : Int) ∧ (0 ≤ t → t = (m : Int)) ∧ (t < 0 → m = 0) := by rw [ht, hm]; split <;> omega
 replace ht : Hid _ := ht
 replace hI : Hid _ := hI
 replace hM : Hid _ := hM
 replace hN : Hid _ := hN
 replace hmn : Hid _ := hmn
 replace hmt : Hid _ := hmt
 replace htm : Hid _ := htm
 clear hm
 go_enter Tryz.func41, Tryz.ntmps41
 go_wp2
 rw [← hy]
 clear hy
 go_loopw [7] (fun i wr => ∃ k : Nat, k ≤ m ∧ i = .int .i64 (k : Int) ∧ (∃ adk capk, FOwn ptEnc 11 113 y.heap.size wr (.slice adk k capk) (List.replicate k Pt.nil) ∧ BBox wr (w.heap.size + 1) id (.slice adk k capk)) ∧ BBox wr w.heap.size 0 (.slice none 0 0) ∧ Below w.heap.size w wr ∧ y.heap.size ≤ wr.heap.size) (fun i _ => m - (intOf i).toNat)
 case atStart => exact ⟨0, Nat.zero_le _, rfl, ⟨none, 0, FOwn.nil, N0⟩, R0, B0, Nat.le_refl _⟩
 case round =>
  obtain ⟨k, hk, rfl, ⟨adk, capk, O, N1⟩, R1, B1, S1⟩ := hrel
  obtain ⟨⟨n0, n1⟩, nf⟩ := N1
  have N1 : BBox wr (w.heap.size + 1) id (.slice adk k capk) := ⟨⟨n0, n1⟩, nf⟩
  by_cases hlt : (k : Int) < t
  ·
   have dl : decide ((k : Int) < t) = true := decide_eq_true hlt
   have hkm : k < m := by have := htm.out; omega
   replace hlt : Hid _ := hlt
   go_wp2_with fail
   go_at_call 72
   refine (minS n 5 wr).mono ?_
   rintro e w2 ⟨rfl, rfl⟩
   rw [← ht.out]
   have V1 := FView.one w2 113 Pt.nil
   have B2 := B1.alloc B1.size (Obj.cells #[.bool false, .bool false, .int .i64 0, .int .i64 0, .int .i64 0, .int .i64 0, .int .i64 0, .int .i64 0, .int .i64 0, .int .i64 0, .bool false] 113)
   have O2 : FOwn ptEnc 11 113 y.heap.size (w2.alloc (Obj.cells #[.bool false, .bool false, .int .i64 0, .int .i64 0, .int .i64 0, .int .i64 0, .int .i64 0, .int .i64 0, .int .i64 0, .int .i64 0, .bool false] 113)) (.slice adk k capk) (List.replicate k Pt.nil) := O.later (below_new _)
   have hcn := O.capn
   go_wp2_with (first | (at_builtin; refine fappL ptEnc_len ptEnc_ones rfl _ _ 67 rfl y.heap.size 113 i0 (.agg #[.bool false, .bool false, .int .i64 0, .int .i64 0, .int .i64 0, .int .i64 0, .int .i64 0, .int .i64 0, .int .i64 0, .int .i64 0, .bool false]) 80 Tryz.underlying67 hi hz0 hz1 hz2 rfl (by decide) (by decide) (.slice adk k capk) (List.replicate k Pt.nil) rfl O2 (some ⟨w2.heap.size, 0, none⟩) 1 [Pt.nil] rfl (fun e => by cases e) V1 ?z0 ?z1 ?_) | go_in)
   case z0 => simp; omega
   case z1 => simp; omega
   intro vZ wZ hownZ hgrowZ _
   have hownZ : FOwn ptEnc 11 113 y.heap.size wZ vZ (List.replicate (k + 1) Pt.nil) := by rw [List.replicate_succ']; exact hownZ
   have ho : ∀ g, (Value.slice adk k capk).ownBlock = some g → y.heap.size ≤ g := fun g e => (O2.lt g e).1
   have BZ : Below w.heap.size w wZ := B2.grown hgrowZ B2.size (fun g e => by have := ho g e; omega)
   have NZ : BBox wZ (w.heap.size + 1) id (.slice adk k capk) := (N1.below (below_new _) N1.lt).keep (hgrowZ.block _ (by have := N1.lt; simp; omega) (fun e => by have := ho _ e.symm; omega))
   have RZ : BBox wZ w.heap.size 0 (.slice none 0 0) := (R1.below (below_new _) R1.lt).keep (hgrowZ.block _ (by have := R1.lt; simp; omega) (fun e => by have := ho _ e.symm; omega))
   have SZ : y.heap.size ≤ wZ.heap.size := by have := hgrowZ.size; simp at this; omega
   obtain ⟨aZ, cZ, hvz⟩ := hownZ.open_
   rw [List.length_replicate] at hvz
   subst hvz
   clear hgrowZ V1 B2 O2 n0 n1 nf N1 R1 O ho hcn
   obtain ⟨⟨q0, q1⟩, qf⟩ := NZ
   have NZ : BBox wZ (w.heap.size + 1) id (.slice adk k capk) := ⟨⟨q0, q1⟩, qf⟩
   have NS : BBox (wZ.setCell ⟨w.heap.size + 1, 1, none⟩ (.slice aZ (k + 1) cZ)) (w.heap.size + 1) id (.slice aZ (k + 1) cZ) := ⟨⟨(pset_else (by decide)).trans q0, pset_same q1⟩, fun i => by rw [World.frozen?_setCell]; exact qf i⟩
   have RS : BBox (wZ.setCell ⟨w.heap.size + 1, 1, none⟩ (.slice aZ (k + 1) cZ)) w.heap.size 0 (.slice none 0 0) := RZ.keep (Below.heap_setCell _ _ _ _ (by show w.heap.size ≠ w.heap.size + 1; omega))
   have OS : FOwn ptEnc 11 113 y.heap.size (wZ.setCell ⟨w.heap.size + 1, 1, none⟩ (.slice aZ (k + 1) cZ)) (.slice aZ (k + 1) cZ) (List.replicate (k + 1) Pt.nil) := hownZ.keep fun g' e => Below.heap_setCell _ _ _ _ (by have := (hownZ.lt g' e).1; show g' ≠ w.heap.size + 1; omega)
   have BS := BZ.setCell (p := ⟨w.heap.size + 1, 1, none⟩) (by show _ ≤ w.heap.size + 1; omega) (.slice aZ (k + 1) cZ)
   clear NZ RZ hownZ BZ
   go_wp2
   go_roundw
   case rel => exact ⟨k + 1, by omega, by go_num, ⟨aZ, cZ, OS, NS⟩, RS, BS, by simpa using SZ⟩
   case measure => simp [intOf]; omega
  ·
   have dl : decide ((k : Int) < t) = false := decide_eq_false hlt
   have hkm : Hid (k = m) := by unfold Hid; have := htm.out; omega
   replace hlt : Hid _ := hlt
   go_wp2_with fail
   go_at_call 72
   refine (minS n 5 wr).mono ?_
   rintro e w2 ⟨rfl, rfl⟩
   rw [← ht.out]
   have hc := bOkS id adk capk (List.replicate k Pt.nil) w2 (by have := O.view.2; exact this) (by rw [List.length_replicate]; omega)
   rw [List.length_replicate, bOk_new, hkm.out, ← hmn.out, ← hkm.out] at hc
   go_wp2_with fail
   go_at_call 73
   refine hc.mono ?_
   rintro e w3 ⟨rfl, k3⟩
   have R3 := R1.below k3 R1.lt
   have N3 := N1.below k3 N1.lt
   have O3 := O.later k3
   have B3 := B1.trans (k3.mono B1.size)
   clear hc k3 n0 n1 nf R1 N1 O
   cases he : nOk id n with
   | false =>
    replace hI : Hid (IV = 0) := by unfold Hid; rw [hI.out]; unfold newI; rw [he]; rfl
    replace hM : Hid (LV = []) := by unfold Hid; rw [hM.out]; unfold newL; rw [he]; rfl
    replace hN : Hid (NV = false) := by unfold Hid; rw [hN.out, he]
    clear he
    have RP := R3.put 0 (.slice none 0 0)
    obtain ⟨⟨r0, r1⟩, rf⟩ := R3
    have BZ := (B3.setCell (p := ⟨w.heap.size, 0, none⟩) (Nat.le_refl w.heap.size) (.int .i64 0)).setCell (p := ⟨w.heap.size, 1, none⟩) (Nat.le_refl w.heap.size) (.slice none 0 0)
    obtain ⟨⟨p0, p1⟩, _⟩ := RP
    go_wp2
    refine bodyPost_ret (v := .tuple #[.agg #[.int .i64 0, .slice none 0 0], .bool false]) (by simp [results, Tryz.results41, go_sem, *]) rfl ⟨none, 0, by rw [hI.out, hM.out, hN.out]; rfl, by rw [hM.out]; exact FOwn.nil, BZ⟩
   | true =>
    have hRl : Hid (LV.length = k) := by unfold Hid; rw [hM.out]; unfold newL; rw [he, if_pos rfl, List.length_replicate, hmt.out he, hkm.out]
    replace hI : Hid (IV = id) := by unfold Hid; rw [hI.out]; unfold newI; rw [he]; rfl
    replace hM : Hid (LV = List.replicate k Pt.nil) := by unfold Hid; rw [hM.out]; unfold newL; rw [he, if_pos rfl, hmt.out he, hkm.out]
    replace hN : Hid (NV = true) := by unfold Hid; rw [hN.out, he]
    clear he hkm
    have RP := R3.put id (.slice adk k capk)
    obtain ⟨⟨r0, r1⟩, rf⟩ := R3
    obtain ⟨⟨n0, n1⟩, nf⟩ := N3
    have BZ := (B3.setCell (p := ⟨w.heap.size, 0, none⟩) (Nat.le_refl w.heap.size) (.int .i64 id)).setCell (p := ⟨w.heap.size, 1, none⟩) (Nat.le_refl w.heap.size) (.slice adk k capk)
    have OZ : FOwn ptEnc 11 113 w.heap.size ((w3.setCell ⟨w.heap.size, 0, none⟩ (.int .i64 id)).setCell ⟨w.heap.size, 1, none⟩ (.slice adk k capk)) (.slice adk k capk) (List.replicate k Pt.nil) := (O3.base (by omega)).keep fun g' e => by
     have := (O3.lt g' e).1
     rw [Below.heap_setCell _ _ _ _ (by show g' ≠ w.heap.size; omega), Below.heap_setCell _ _ _ _ (by show g' ≠ w.heap.size; omega)]
    obtain ⟨⟨p0, p1⟩, _⟩ := RP
    go_wp2
    refine bodyPost_ret (v := .tuple #[.agg #[.int .i64 id, .slice adk k capk], .bool true]) (by simp [results, Tryz.results41, go_sem, *]) rfl ⟨adk, capk, by rw [hI.out, hN.out, hRl.out], by rw [hRl.out, hM.out]; exact OZ, BZ⟩
end Go.Proofs.YtnpiljegdiconabGreat
