import Derived.Test.YtnpiljegdiconaaQM3
import Derived.Deep.Slices
namespace Go.Proofs.Ytnpiljegdiconaa
open Go.ChangeShapes Go.WideShapes Go.ChangeAt Go.RowKit
open Go.ChangeMaps (open_string shut_string)
set_option linter.unusedVariables false
set_option maxRecDepth 100000
def Pt.nil : Pt := ⟨false, false, 0, 0, 0, 0, 0, 0, 0, 0, false⟩
theorem pOk_nil : pOk Pt.nil = true := by decide
def bOk (id : Int) (L : List Pt) : Bool := decide (1 ≤ id ∧ id ≤ 9) && (decide (1 ≤ L.length ∧ L.length ≤ 4) && L.all pOk)
theorem bOk_all {id : Int} {L : List Pt} (h : bOk id L = true) : (1 ≤ id ∧ id ≤ 9) ∧ (1 ≤ L.length ∧ L.length ≤ 4) ∧ ∀ i, pOk (L.getD i Pt.nil) = true := by
 simp only [bOk, Bool.and_eq_true, decide_eq_true_eq, List.all_eq_true] at h
 refine ⟨h.1, h.2.1, fun i => ?_⟩
 by_cases hi : i < L.length
 ·
  have : L.getD i Pt.nil = L[i] := by simp [List.getD, hi]
  rw [this]
  exact h.2.2 _ (List.getElem_mem hi)
 ·
  have : L.getD i Pt.nil = Pt.nil := by simp [List.getD, List.getElem?_eq_none (by omega : L.length ≤ i)]
  rw [this]
  exact pOk_nil
def cand (id : Int) (x : Pt) : Bool := x.has && (!(x.b == id) && (decide (x.r < id) && (decide (x.c < 20) && decide (x.h < 8))))
def vBetter (x y : Pt) : Bool := vLt x.r x.c x.b x.p y.r y.c y.b y.p
def bestTo (id : Int) (L : List Pt) : Nat → Option Nat
 | 0 => none
 | n + 1 => match bestTo id L n with
  | none => if cand id (L.getD n Pt.nil) then some n else none
  | some k => if cand id (L.getD n Pt.nil) && vBetter (L.getD n Pt.nil) (L.getD k Pt.nil) then some n else some k
theorem bestTo_some {id : Int} {L : List Pt} {n k : Nat} (h : bestTo id L n = some k) : k < n ∧ cand id (L.getD k Pt.nil) = true := by
 induction n generalizing k with
 | zero => cases h
 | succ n ih =>
  simp only [bestTo] at h
  cases hb : bestTo id L n with
  | none =>
   rw [hb] at h
   simp only [] at h
   cases hc : cand id (L.getD n Pt.nil) with
   | false => rw [hc] at h; cases h
   | true =>
    rw [hc] at h
    cases h
    exact ⟨by omega, hc⟩
  | some m =>
   rw [hb] at h
   simp only [] at h
   split at h
   ·
    rename_i q
    cases h
    simp only [Bool.and_eq_true] at q
    exact ⟨by omega, q.1⟩
   ·
    cases h
    obtain ⟨a, b⟩ := ih hb
    exact ⟨by omega, b⟩
def rootO (id : Int) (L : List Pt) : Option Nat := if bOk id L then bestTo id L L.length else none
theorem rootO_some {id : Int} {L : List Pt} {k : Nat} (h : rootO id L = some k) : bOk id L = true ∧ k < L.length ∧ cand id (L.getD k Pt.nil) = true := by
 unfold rootO at h
 cases hb : bOk id L with
 | false => simp [hb] at h
 | true =>
  simp only [hb, if_true] at h
  exact ⟨rfl, bestTo_some h⟩
def ownR (id : Int) (L : List Pt) (port : Int) : Int × Int × Int × Int :=
 if bOk id L && decide (0 ≤ port ∧ port < (L.length : Int)) then (match rootO id L with
  | none => (id, 0, id, port)
  | some k => ((L.getD k Pt.nil).r, (L.getD k Pt.nil).c + 1, id, port)) else (0, 0, 0, 0)
def hopsR (id : Int) (L : List Pt) : Int := match rootO id L with
 | none => 0
 | some k => (L.getD k Pt.nil).h + 1
def roleR (id : Int) (L : List Pt) (i : Nat) : Int :=
 if rootO id L = some i then 1 else if (L.getD i Pt.nil).has && vLt (L.getD i Pt.nil).r (L.getD i Pt.nil).c (L.getD i Pt.nil).b (L.getD i Pt.nil).p (ownR id L i).1 (ownR id L i).2.1 (ownR id L i).2.2.1 (ownR id L i).2.2.2 then 3 else 2
def turnUp (x : Pt) (role : Int) : Pt := if x.up then turnR x role else x
def decideR (id : Int) (L : List Pt) : List Pt := if bOk id L then (List.range L.length).map fun i => turnUp (L.getD i Pt.nil) (roleR id L i) else L
theorem decideR_len (id : Int) (L : List Pt) : (decideR id L).length = L.length := by unfold decideR; split <;> simp
def tickW (x : Pt) : Int := if (x.ro = 1 ∨ x.ro = 2) ∧ 0 < x.wa then x.wa - 1 else x.wa
def tickP (x : Pt) : Pt := ⟨(fadeR x).up, (fadeR x).has, (fadeR x).r, (fadeR x).c, (fadeR x).b, (fadeR x).p, (fadeR x).h, (fadeR x).l, (fadeR x).ro, tickW (fadeR x), raOp (fadeR x).ro (tickW (fadeR x))⟩
theorem fadeR_keeps (x : Pt) : (fadeR x).up = x.up ∧ (fadeR x).ro = x.ro ∧ (fadeR x).wa = x.wa ∧ (fadeR x).op = x.op := by
 unfold fadeR
 split
 ·
  split
  ·
   exact ⟨rfl, rfl, rfl, rfl⟩
  ·
   exact ⟨rfl, rfl, rfl, rfl⟩
 ·
  exact ⟨rfl, rfl, rfl, rfl⟩
theorem pOk_parts {x : Pt} : pOk x = true ↔ ((0 ≤ x.ro ∧ x.ro ≤ 3) ∧ x.up = raUp x.ro ∧ x.op = raOp x.ro x.wa ∧ (0 ≤ x.wa ∧ x.wa ≤ 4) ∧ fitsB x = true) := by
 simp [pOk, raIs]
def ptEnc (x : Pt) : List Value := [.bool x.up, .bool x.has, .int .i64 x.r, .int .i64 x.c, .int .i64 x.b, .int .i64 x.p, .int .i64 x.h, .int .i64 x.l, .int .i64 x.ro, .int .i64 x.wa, .bool x.op]
theorem ptEnc_len (x : Pt) : (ptEnc x).length = 11 := rfl
theorem ptEnc_ones (L : List Pt) : ∀ u ∈ fcells ptEnc L, u.oneCell' = true := by
 induction L with
 | nil => intro u h; cases h
 | cons x L ih =>
  intro u h
  simp only [fcells, ptEnc, List.mem_append, List.mem_cons, List.not_mem_nil, or_false] at h
  rcases h with (rfl | rfl | rfl | rfl | rfl | rfl | rfl | rfl | rfl | rfl | rfl) | h
  ·
   rfl
  ·
   rfl
  ·
   rfl
  ·
   rfl
  ·
   rfl
  ·
   rfl
  ·
   rfl
  ·
   rfl
  ·
   rfl
  ·
   rfl
  ·
   rfl
  ·
   exact ih u h
structure PtAtO (w : World) (b o : Nat) (x : Pt) : Prop where
 c0 : w.cell? ⟨b, o, none⟩ = some (.bool x.up)
 c1 : w.cell? ⟨b, o + 1, none⟩ = some (.bool x.has)
 c2 : w.cell? ⟨b, o + 2, none⟩ = some (.int .i64 x.r)
 c3 : w.cell? ⟨b, o + 3, none⟩ = some (.int .i64 x.c)
 c4 : w.cell? ⟨b, o + 4, none⟩ = some (.int .i64 x.b)
 c5 : w.cell? ⟨b, o + 5, none⟩ = some (.int .i64 x.p)
 c6 : w.cell? ⟨b, o + 6, none⟩ = some (.int .i64 x.h)
 c7 : w.cell? ⟨b, o + 7, none⟩ = some (.int .i64 x.l)
 c8 : w.cell? ⟨b, o + 8, none⟩ = some (.int .i64 x.ro)
 c9 : w.cell? ⟨b, o + 9, none⟩ = some (.int .i64 x.wa)
 c10 : w.cell? ⟨b, o + 10, none⟩ = some (.bool x.op)
theorem ptAtO_of {w : World} {b o : Nat} {x : Pt} (h : ∀ j v, (ptEnc x)[j]? = some v → w.cell? ⟨b, o + j, none⟩ = some v) : PtAtO w b o x := ⟨h 0 _ rfl, h 1 _ rfl, h 2 _ rfl, h 3 _ rfl, h 4 _ rfl, h 5 _ rfl, h 6 _ rfl, h 7 _ rfl, h 8 _ rfl, h 9 _ rfl, h 10 _ rfl⟩
theorem ptPut (w : World) (g o : Nat) (x : Pt) : putAll w g o (ptEnc x) = (((((((((((w.setCell ⟨g, o, none⟩ (.bool x.up)).setCell ⟨g, o + 1, none⟩ (.bool x.has)).setCell ⟨g, o + 2, none⟩ (.int .i64 x.r)).setCell ⟨g, o + 3, none⟩ (.int .i64 x.c)).setCell ⟨g, o + 4, none⟩ (.int .i64 x.b)).setCell ⟨g, o + 5, none⟩ (.int .i64 x.p)).setCell ⟨g, o + 6, none⟩ (.int .i64 x.h)).setCell ⟨g, o + 7, none⟩ (.int .i64 x.l)).setCell ⟨g, o + 8, none⟩ (.int .i64 x.ro)).setCell ⟨g, o + 9, none⟩ (.int .i64 x.wa)).setCell ⟨g, o + 10, none⟩ (.bool x.op)) := rfl
theorem ptInfo : (Try.prog.info? 119).map (fun i => (i.zero, i.size, i.bytes)) = some (some (.agg #[.bool false, .bool false, .int .i64 0, .int .i64 0, .int .i64 0, .int .i64 0, .int .i64 0, .int .i64 0, .int .i64 0, .int .i64 0, .bool false]), 11, 80) := by kernel_rfl
structure BrAt (w : World) (q : Nat) (id : Int) (v : Value) : Prop where
 c0 : w.cell? ⟨q, 0, none⟩ = some (.int .i64 id)
 c1 : w.cell? ⟨q, 1, none⟩ = some v
theorem BrAt.keep {w w' : World} {q : Nat} {id : Int} {v : Value} (h : BrAt w q id v) (k : w'.heap[q]? = w.heap[q]?) : BrAt w' q id v :=
 ⟨(World.cell?_of_block (a := ⟨q, 0, none⟩) k).trans h.c0, (World.cell?_of_block (a := ⟨q, 1, none⟩) k).trans h.c1⟩
theorem BrAt.below {w w' : World} {q n : Nat} {id : Int} {v : Value} (h : BrAt w q id v) (k : Below n w w') (hq : q < n) : BrAt w' q id v := h.keep (k.block q hq)
theorem BrAt.lt {w : World} {q : Nat} {id : Int} {v : Value} (h : BrAt w q id v) : q < w.heap.size := World.block_lt_of_cell? w _ h.c0
theorem BrAt.new (w : World) (t : TypeId) (id : Int) (v : Value) : BrAt (w.alloc (Obj.cells #[.int .i64 id, v] t)) w.heap.size id v := by
 refine ⟨?_, ?_⟩ <;> simp [go_sem]
theorem BrAt.alloc {w : World} {q : Nat} {id : Int} {v : Value} (h : BrAt w q id v) (o : Obj) : BrAt (w.alloc o) q id v := h.keep (Below.heap_alloc w o q h.lt)
theorem below_new {w : World} (o : Obj) : Below w.heap.size w (w.alloc o) := (Below.refl _ _).alloc (Nat.le_refl _) _
structure BBox (w : World) (q : Nat) (id : Int) (v : Value) : Prop where
 at_ : BrAt w q id v
 fr : ∀ i, w.frozen? ⟨q, i, none⟩ = false
theorem BBox.keep {w w' : World} {q : Nat} {id : Int} {v : Value} (h : BBox w q id v) (k : w'.heap[q]? = w.heap[q]?) : BBox w' q id v :=
 ⟨h.at_.keep k, fun i => (World.frozen?_of_block (a := ⟨q, i, none⟩) k).trans (h.fr i)⟩
theorem BBox.lt {w : World} {q : Nat} {id : Int} {v : Value} (h : BBox w q id v) : q < w.heap.size := h.at_.lt
theorem BBox.below {w w' : World} {q n : Nat} {id : Int} {v : Value} (h : BBox w q id v) (k : Below n w w') (hq : q < n) : BBox w' q id v := h.keep (k.block q hq)
theorem BBox.new (w : World) (t : TypeId) (id : Int) (v : Value) : BBox (w.alloc (Obj.cells #[.int .i64 id, v] t)) w.heap.size id v := ⟨BrAt.new w t id v, fun i => by simp [go_sem]⟩
theorem BBox.put {w : World} {q : Nat} {id : Int} {v : Value} (h : BBox w q id v) (id' : Int) (v' : Value) : BBox ((w.setCell ⟨q, 0, none⟩ (.int .i64 id')).setCell ⟨q, 1, none⟩ v') q id' v' := by
 have e1 : (w.setCell ⟨q, 0, none⟩ (.int .i64 id')).cell? ⟨q, 1, none⟩ = some v := (pset_else (by decide)).trans h.at_.c1
 refine ⟨⟨(pset_else (by decide)).trans (pset_same h.at_.c0), pset_same e1⟩, fun i => ?_⟩
 rw [World.frozen?_setCell, World.frozen?_setCell]; exact h.fr i
def linkP (up : Bool) : Pt := if up then ⟨true, false, 0, 0, 0, 0, 0, 0, 3, 0, false⟩ else Pt.nil
theorem tick_imp {x : Pt} (h : pOk x = true) : tickP x = if ((fadeR x).ro = 1 ∨ (fadeR x).ro = 2) ∧ 0 < (fadeR x).wa then { fadeR x with wa := (fadeR x).wa - 1, op := ((fadeR x).wa - 1 == 0) } else fadeR x := by
 obtain ⟨h1, h2, h3, h4, _⟩ := pOk_parts.1 h
 obtain ⟨k1, k2, k3, k4⟩ := fadeR_keeps x
 unfold tickP tickW
 generalize fadeR x = y at *
 obtain ⟨up, has, r, c, b, p, hh, l, ro, wa, op⟩ := y
 dsimp only at *
 by_cases hc : (ro = 1 ∨ ro = 2) ∧ 0 < wa
 ·
  rw [if_pos hc, if_pos hc]
  congr 1
  unfold raOp
  rw [Bool.eq_iff_iff]
  simp only [decide_eq_true_eq, beq_iff_eq]
  omega
 ·
  rw [if_neg hc, if_neg hc]
  congr 1
  rw [k4, h3, k2, k3]
end Go.Proofs.Ytnpiljegdiconaa
namespace Go.Proofs.Ytnpiljegdiconaa
open Go.ChangeShapes Go.WideShapes Go.ChangeAt Go.RowKit
open Go.ChangeMaps (open_string shut_string)
set_option linter.unusedVariables false
set_option maxRecDepth 100000
def boEnc (x : Bool) : List Value := [.bool x]
theorem boEnc_len (x : Bool) : (boEnc x).length = 1 := rfl
theorem boEnc_ones (L : List Bool) : ∀ u ∈ fcells boEnc L, u.oneCell' = true := by
 induction L with
 | nil => intro u h; cases h
 | cons x L ih =>
  intro u h
  simp only [fcells, boEnc, List.mem_append, List.mem_cons, List.not_mem_nil, or_false] at h
  rcases h with rfl | h
  ·
   rfl
  ·
   exact ih u h
theorem boInfo : (Try.prog.info? 4).map (fun i => (i.zero, i.size, i.bytes)) = some (some (.bool false), 1, 1) := by kernel_rfl
theorem FView.oneB (w : World) (t : TypeId) (x : Bool) : FView boEnc (w.alloc (Obj.cells #[.bool x] t)) (some ⟨w.heap.size, 0, none⟩) [x] := by
 intro _
 refine ⟨w.heap.size, 0, rfl, fun j v hv => ?_⟩
 match j, hv with
 | 0, hv => cases hv; simp [go_sem]
 | j + 1, hv => simp [fcells, boEnc] at hv
def gatesR (L : List Pt) : List Bool := L.map Pt.op
theorem gatesR_len (L : List Pt) : (gatesR L).length = L.length := List.length_map ..
theorem gatesR_take (L : List Pt) {k : Nat} (hk : k < L.length) : gatesR (L.take (k + 1)) = gatesR (L.take k) ++ [(L.getD k Pt.nil).op] := by
 unfold gatesR
 rw [List.take_add_one, List.map_append]
 have e : L[k]?.toList = [L.getD k Pt.nil] := by simp [List.getD, hk]
 rw [e]; rfl
set_option maxHeartbeats 4000000 in
theorem gatesS12r (id : Int) (ad : Option Addr) (cap : Nat) (L : List Pt) (w : World) (hv : FView ptEnc w ad L) (hl : L.length ≤ 1048576) :
  Calls Try.prog 55 #[.agg #[.int .i64 id, .slice ad L.length cap]] w fun e w' => ∃ a c, e = .returned (.slice a L.length c) ∧ FOwn boEnc 1 4 w.heap.size w' (.slice a L.length c) (gatesR L) ∧ Below w.heap.size w w' := by
 obtain ⟨j0, hj, hj0, hj1, hj2⟩ := info_parts boInfo
 obtain ⟨y, hy⟩ : ∃ y, y = w.alloc (Obj.cells #[.int .i64 id, .slice ad L.length cap] 110) := ⟨_, rfl⟩
 have B0 : Below w.heap.size w y := by rw [hy]; exact below_new _
 have A : BrAt y w.heap.size id (.slice ad L.length cap) := by rw [hy]; exact BrAt.new w _ _ _
 have hB := hv.lt ptEnc_len (by omega)
 have hV := hv.below B0 hB
 have hB := hV.lt ptEnc_len (by omega)
 have S0 := A.lt
 clear hv
 obtain ⟨y2, hy2⟩ : ∃ y2, y2 = y.alloc (Obj.cells #[] 4) := ⟨_, rfl⟩
 have O0 : FOwn boEnc 1 4 y.heap.size y2 (.slice (some ⟨y.heap.size, 0, none⟩) 0 0) (gatesR (L.take 0)) := by
  rw [hy2]; exact FOwn.empty y
 have B1 : Below y.heap.size y y2 := by rw [hy2]; exact below_new _
 go_enter Try.func55, Try.ntmps55
 go_upto_region 1 with fail
 rw [← hy]
 clear hy
 go_upto_region 2 with fail
 rw [← hy2]
 clear hy2
 go_wp2
 go_loopw [3, 4] (fun v q wr => ∃ k : Nat, k ≤ L.length ∧ q = .int .i64 (k : Int) ∧ FOwn boEnc 1 4 y.heap.size wr v (gatesR (L.take k)) ∧ Below y.heap.size y wr) (fun _ q _ => L.length - (intOf q).toNat)
 case atStart => exact ⟨0, Nat.zero_le _, rfl, O0, B1⟩
 case round =>
  obtain ⟨k, hk1, rfl, O, kb⟩ := hrel
  clear O0 B1
  have hA := A.below kb S0
  obtain ⟨x1, x2⟩ := hA
  by_cases hlt : k < L.length
  ·
   have hst := gatesR_take L hlt
   obtain ⟨b, off, rfl, _⟩ := hV (by omega)
   obtain ⟨h, hh⟩ : ∃ h, L.getD k Pt.nil = h := ⟨_, rfl⟩
   have hck : PtAtO wr b (off + k * 11) h := by
    rw [← hh]
    exact ptAtO_of ((hV.below kb hB).at_ ptEnc_len Pt.nil hlt)
   rw [hh] at hst
   have hop := hck.c10
   clear hck hh
   obtain ⟨M, hM⟩ : ∃ M, gatesR (L.take k) = M := ⟨_, rfl⟩
   have hMl : M.length ≤ k := by rw [← hM, gatesR_len]; simp; omega
   rw [hM] at O hst
   clear hM
   obtain ⟨ak, ck2, rfl⟩ := O.open_
   replace hst : Hid _ := hst
   have V1 := FView.oneB wr 4 h.op
   have kx : Below wr.heap.size wr (wr.alloc (Obj.cells #[.bool h.op] 4)) := below_new _
   have O4 := O.later kx
   have b4 := kb.trans (kx.mono kb.size)
   have s4 := b4.size
   clear kx
   go_wp2_with (first | (at_builtin; refine fappL boEnc_len boEnc_ones rfl _ _ 76 rfl y.heap.size 4 j0 (.bool false) 1 Try.underlying76 hj hj0 hj1 hj2 rfl (by decide) (by decide) (.slice ak M.length ck2) M rfl O4 (some ⟨wr.heap.size, 0, none⟩) 1 [h.op] rfl (fun e => by cases e) V1 ?z0 ?z1 ?_) | go_in)
   case z0 => first | omega | (simp; omega)
   case z1 => first | omega | (simp; omega)
   intro vZ wZ hownZ hgrowZ _
   have hob : ∀ q, (Value.slice ak M.length ck2).ownBlock = some q → y.heap.size ≤ q := fun q e => (O4.lt q e).1
   have bZ : Below y.heap.size y wZ := b4.grown hgrowZ (by exact s4) hob
   clear hgrowZ V1 O4 hob O b4
   go_wp2
   go_roundw
   case rel => exact ⟨k + 1, by omega, by go_num, by rw [hst.out]; exact hownZ, bZ⟩
   case measure => simp [intOf]; omega
  ·
   obtain rfl : k = L.length := by omega
   rw [List.take_length] at O
   obtain ⟨ak, ck2, rfl⟩ := O.open_
   have OZ := O.base B0.size
   rw [gatesR_len] at OZ ⊢
   have bZ := B0.trans (kb.mono B0.size)
   go_wp2
   go_ret
   exact ⟨_, _, rfl, OZ, bZ⟩
theorem gatesS12 (id : Int) (ad : Option Addr) (cap : Nat) (L : List Pt) (w : World) (hv : FView ptEnc w ad L) (hl : L.length ≤ 1048576) :
  Calls Try.prog 55 #[.agg #[.int .i64 id, .slice ad L.length cap]] w fun e w' => ∃ a c, e = .returned (.slice a (gatesR L).length c) ∧ FOwn boEnc 1 4 w.heap.size w' (.slice a (gatesR L).length c) (gatesR L) ∧ Below w.heap.size w w' := by
 rw [gatesR_len]
 exact gatesS12r id ad cap L w hv hl
end Go.Proofs.Ytnpiljegdiconaa
