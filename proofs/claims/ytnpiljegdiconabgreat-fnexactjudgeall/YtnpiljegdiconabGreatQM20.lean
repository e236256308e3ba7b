import Derived.Test.YtnpiljegdiconabGreatQKWRe5
import Derived.Defers
import Derived.Recover
import Derived.Shelf.Abstract
import Derived.Test.YtnpiljegdiconabGreatQM22
namespace Go.Proofs.YtnpiljegdiconabGreat
open Go.ChangeShapes Go.WideShapes Go.ChangeAt Go.RowKit
open Go.ChangeMaps (open_string shut_string)
set_option linter.unusedVariables false
set_option maxRecDepth 100000
theorem bOk_len4 {id : Int} {L : List Pt} (h : bOk id L = true) : L.length ≤ 4 := (bOk_all h).2.1.2
theorem reactO_len (id : Int) (L : List Pt) (x : Ik) : (reactO id L x).length ≤ 8 := by
 unfold reactO
 split
 ·
  rename_i h
  unfold goes at h
  simp only [Bool.and_eq_true] at h
  have h4 := bOk_len4 h.1
  have h1 := gates_len L (afterL id L x) L.length
  have h2 := told_len id (afterL id L x) L.length
  rw [List.length_append]
  split
  ·
   omega
  ·
   simp; omega
 ·
  simp
theorem FView.take {X : Type} {enc : X → List Value} {w : World} {ad : Option Addr} {L : List X} (h : FView enc w ad L) (k : Nat) : FView enc w ad (L.take k) := by
 intro hp
 obtain ⟨b, off, e, hc⟩ := h (by rw [List.length_take] at hp; omega)
 refine ⟨b, off, e, fun j v hv => hc j v ?_⟩
 rw [← List.take_append_drop k L, fcells_app, List.getElem?_append_left (List.getElem?_eq_some_iff.1 hv).1]
 exact hv
def ofR (id n : Int) (X : List Ik) : List Pt := ofL (newI id n) (newL id n) X
theorem newL_small (id n : Int) : (newL id n).length ≤ 4 := by
 unfold newL
 split
 ·
  rename_i q
  unfold nOk at q
  simp only [Bool.and_eq_true, decide_eq_true_eq] at q
  rw [List.length_replicate]
  omega
 ·
  simp
theorem ofR_len (id n : Int) (X : List Ik) : (ofR id n X).length ≤ 4 := by
 unfold ofR; rw [ofL_len]; exact newL_small id n
theorem ofR_not {id n : Int} (X : List Ik) (h : nOk id n = false) : ofR id n X = [] ∧ newI id n = 0 := by
 have e1 : newI id n = 0 := by unfold newI; rw [h]; rfl
 have e2 : newL id n = [] := by unfold newL; rw [h]; rfl
 refine ⟨?_, e1⟩
 unfold ofR
 rw [e1, e2]
 exact ofL_not X (by decide)
theorem BBox.put1 {w : World} {q : Nat} {id : Int} {v : Value} (h : BBox w q id v) (id' : Int) (v' : Value) (k : Nat) (hk : k ≠ q) : ((w.setCell ⟨q, 0, none⟩ (.int .i64 id')).setCell ⟨q, 1, none⟩ v').heap[k]? = w.heap[k]? := by
 rw [Below.heap_setCell _ _ _ _ hk, Below.heap_setCell _ _ _ _ hk]
theorem MdAtO.belowJ {w w' : World} {q o n : Nat} {x : MiD} (h : MdAtO w q o x) (k : Below n w w') (hq : q < n) : MdAtO w' q o x :=
 ⟨(World.cell?_of_block (a := ⟨q, o, none⟩) (k.block q hq)).trans h.c0, (World.cell?_of_block (a := ⟨q, o + 1, none⟩) (k.block q hq)).trans h.c1, (World.cell?_of_block (a := ⟨q, o + 2, none⟩) (k.block q hq)).trans h.c2, (World.cell?_of_block (a := ⟨q, o + 3, none⟩) (k.block q hq)).trans h.c3, (World.cell?_of_block (a := ⟨q, o + 4, none⟩) (k.block q hq)).trans h.c4, (World.cell?_of_block (a := ⟨q, o + 5, none⟩) (k.block q hq)).trans h.c5, (World.cell?_of_block (a := ⟨q, o + 6, none⟩) (k.block q hq)).trans h.c6⟩
theorem bxOk_smJ {x : BxD} (h : bxOk x.p = true) : x.two.length = 2 ∧ (∀ k, k < 2 → miOk (x.two.getD k MiD.nil).m = true) ∧ x.net.length ≤ 20 ∧ x.ga.length ≤ 4 ∧ x.ln.length ≤ 60 ∧ x.sd.length ≤ 40 := by
 obtain ⟨h1, h2, h3, h4, h5, h6, h7, h8, h9, h10⟩ := bxOk_is.1 h
 have e : x.two.length = 2 := by have h3 : (x.two.map MiD.m).length = 2 := h3; simpa using h3
 refine ⟨e, ?_, h7, ?_, ?_, h10⟩
 ·
  intro k hk
  rcases (by omega : k = 0 ∨ k = 1) with rfl | rfl
  ·
   rw [mOf_p] at h4; exact h4
  ·
   rw [mOf_p] at h5; exact h5
 ·
  unfold nOk at h1
  simp only [Bool.and_eq_true, decide_eq_true_eq] at h1
  have h8 : (x.ga.length : Int) = x.po := h8
  have := h1.2.2
  have h9 : x.p.po = x.po := rfl
  omega
 ·
  unfold insB at h9
  simp only [Bool.and_eq_true, decide_eq_true_eq] at h9
  exact h9.2
theorem miOk_lgJ {m : Mi} (h : miOk m = true) : m.lg.length ≤ 60 := by
 obtain ⟨_, _, _, h4, _⟩ := miOk_iff.1 h
 unfold insB at h4
 simp only [Bool.and_eq_true, decide_eq_true_eq] at h4
 exact h4.2
def YN (e : Ending) (Q : Prop) : Prop := ∃ R : Bool, e = .returned (.bool R) ∧ (R = true ↔ Q)
theorem YN.no {Q : Prop} (h : ¬ Q) : YN (.returned (.bool false)) Q := ⟨false, rfl, ⟨fun h => (by cases h), fun q => absurd q h⟩⟩
theorem YN.yes {Q : Prop} (h : Q) : YN (.returned (.bool true)) Q := ⟨true, rfl, ⟨fun _ => h, fun _ => rfl⟩⟩
theorem YN.is {Q : Prop} {R : Bool} (h : R = true ↔ Q) : YN (.returned (.bool R)) Q := ⟨R, rfl, h⟩
def outsA (id : Int) (L : List Pt) (X : List Ik) : List Ou := (X.foldl (fun p x => (reactL id p.1 x, p.2 ++ reactO id p.1 x)) (L, ([] : List Ou))).2
theorem outsA_run (id : Int) (X : List Ik) : ∀ (L : List Pt) (P : List Ou), X.foldl (fun p x => (reactL id p.1 x, p.2 ++ reactO id p.1 x)) (L, P) = (ofL id L X, P ++ outsA id L X) := by
 induction X with
 | nil => intro L P; simp [outsA, ofL]
 | cons x X ih =>
  intro L P
  have h1 := ih (reactL id L x) (P ++ reactO id L x)
  have h2 := ih (reactL id L x) ([] ++ reactO id L x)
  have h3 : outsA id L (x :: X) = (X.foldl (fun p x => (reactL id p.1 x, p.2 ++ reactO id p.1 x)) (reactL id L x, [] ++ reactO id L x)).2 := rfl
  rw [List.foldl_cons, h3, h2]
  show X.foldl (fun p x => (reactL id p.1 x, p.2 ++ reactO id p.1 x)) (reactL id L x, P ++ reactO id L x) = _
  rw [h1]
  simp [ofL]
theorem outsA_snoc (id : Int) (L : List Pt) (X : List Ik) (x : Ik) : outsA id L (X ++ [x]) = outsA id L X ++ reactO id (ofL id L X) x := by
 have h1 := outsA_run id X L []
 unfold outsA
 rw [List.foldl_append, h1]
 simp [outsA]
theorem outsA_step (id : Int) (L : List Pt) (X : List Ik) (d : Ik) {k : Nat} (hk : k < X.length) : outsA id L (X.take (k + 1)) = outsA id L (X.take k) ++ reactO id (ofL id L (X.take k)) (X.getD k d) := by
 rw [List.take_add_one]
 have e : X[k]?.toList = [X.getD k d] := by simp [List.getD, hk]
 rw [e, outsA_snoc]
theorem outsA_len (id : Int) (L : List Pt) (X : List Ik) : (outsA id L X).length ≤ 8 * X.length := by
 have h : ∀ k, k ≤ X.length → (outsA id L (X.take k)).length ≤ 8 * k := by
  intro k
  induction k with
  | zero => intro _; simp [outsA]
  | succ k ih =>
   intro hk
   rw [outsA_step id L X ikN (by omega), List.length_append]
   have := ih (by omega)
   have := reactO_len id (ofL id L (X.take k)) (X.getD k ikN)
   omega
 have := h X.length (Nat.le_refl _)
 rwa [List.take_length] at this
def gatesJ (x : Bx) : Prop := gatesR (ofR x.id x.po x.ln) = x.ga
def saidJ (x : Bx) : Prop := lastS (outsA (newI x.id x.po) (newL x.id x.po) x.ln) = x.sd
def begJ (A B : List Ik) : Prop := B.take A.length = A
theorem begJ_len {A B : List Ik} (h : begJ A B) : A.length ≤ B.length := by
 have := congrArg List.length h
 rw [List.length_take] at this
 omega
def ownJ (x : Bx) : Prop := mindsX x x.rg.ow = true → begJ x.ln (mOf x x.rg.ow).lg ∧ (mOf x x.rg.ow).sd = (x.ln.length : Int)
def pairJ (x : Bx) : Prop := (mOf x (1 - x.rg.ow)).up = true ∧ 0 < (mOf x (1 - x.rg.ow)).li ∧ (mOf x (1 - x.rg.ow)).li = x.rg.pa ∧ (mOf x (1 - x.rg.ow)).ep = 0
def hasJ (x : Bx) : Prop := pairJ x → begJ x.ln (mOf x (1 - x.rg.ow)).lg
structure BxJ (w : World) (x : BxD) : Prop where
 v : BxV w x
 c : ∀ i, i < x.two.length → (x.two.getD i MiD.nil).m.lg.length ≤ (x.two.getD i MiD.nil).cap
theorem BxJ.later {w w' : World} {x : BxD} (h : BxJ w x) (k : Below w.heap.size w w') : BxJ w' x := ⟨h.v.later k, h.c⟩
theorem bxOk_ow {x : BxD} (h : bxOk x.p = true) : 0 ≤ x.rg.ow ∧ x.rg.ow ≤ 1 := by
 obtain ⟨h1, h2, _⟩ := bxOk_is.1 h
 have h2 : rgOk x.rg = true := h2
 unfold rgOk at h2
 simp only [Bool.and_eq_true, decide_eq_true_eq] at h2
 omega
def fnEnc (f : Nat) : List Value := [.func (.func f) #[] #[]]
theorem fnEnc_len (f : Nat) : (fnEnc f).length = 1 := rfl
theorem judge1 (p5 p4 : Nat) (b c : Bool) (u : FrameMode) (w : World) (h5 : w.cell? ⟨p5, 0, none⟩ = some (.bool b)) (h4 : w.cell? ⟨p4, 0, none⟩ = some (.bool c)) (hf : w.frozen? ⟨p4, 0, none⟩ = false) :
  CallsD Tryz.prog 52 #[.pointer (some ⟨p5, 0, none⟩), .pointer (some ⟨p4, 0, none⟩)] u w fun e u' w' => u' = u ∧ (e = .returned (.tuple #[]) ∧ w' = w.setCell ⟨p4, 0, none⟩ (.bool (!b))) := by
 go_enter_d Tryz.func52, Tryz.ntmps52
 go_wp2
 go_end0
 first | exact ⟨rfl, rfl⟩ | simp
structure FlB (w : World) (q : Nat) (b : Bool) : Prop where
 c : w.cell? ⟨q, 0, none⟩ = some (.bool b)
 f : w.frozen? ⟨q, 0, none⟩ = false
theorem FlB.keep {w w' : World} {q : Nat} {b : Bool} (h : FlB w q b) (k : w'.heap[q]? = w.heap[q]?) : FlB w' q b := ⟨(World.cell?_of_block (a := ⟨q, 0, none⟩) k).trans h.c, (World.frozen?_of_block (a := ⟨q, 0, none⟩) k).trans h.f⟩
theorem FlB.lt {w : World} {q : Nat} {b : Bool} (h : FlB w q b) : q < w.heap.size := World.block_lt_of_cell? w _ h.c
theorem FlB.below {w w' : World} {q n : Nat} {b : Bool} (h : FlB w q b) (k : Below n w w') (hq : q < n) : FlB w' q b := h.keep (k.block q hq)
theorem FlB.put {w : World} {q : Nat} {b : Bool} (h : FlB w q b) (c : Bool) : FlB (w.setCell ⟨q, 0, none⟩ (.bool c)) q c := ⟨pset_same h.c, by rw [World.frozen?_setCell]; exact h.f⟩
theorem FlB.new (w : World) (b : Bool) : FlB (w.alloc (Obj.cells #[.bool b] 4)) w.heap.size b := ⟨by simp [go_sem], by simp [go_sem]⟩
set_option linter.unusedSimpArgs false in
set_option maxHeartbeats 8000000 in
theorem judgeI (x : BxD) (Fs : List Nat) (Q : Nat → Prop) (aF : Option Addr) (cF : Nat) (w : World) (hJ : BxJ w x) (hF : FView fnEnc w aF Fs) (hl : Fs.length ≤ 8)
  (hE : ∀ k, k < Fs.length → Enters Tryz.prog (Fs.getD k 0))
  (hc : bxOk x.p = true → ∀ k, k < Fs.length → ∀ w', BxJ w' x → Calls Tryz.prog (Fs.getD k 0) #[.agg #[.int .i64 x.id, .int .i64 x.po, .int .i64 x.rg.ep, .int .i64 x.rg.ow, .int .i64 x.rg.pa, .slice x.aT x.two.length x.cT, .slice x.aN x.net.length x.cN, .slice x.aG x.ga.length x.cG, .slice x.aL x.ln.length x.cL, .slice x.aS x.sd.length x.cS]] w' fun e w2 => YN e (Q k) ∧ Below w'.heap.size w' w2) :
  Calls Tryz.prog 27 #[.agg #[.int .i64 x.id, .int .i64 x.po, .int .i64 x.rg.ep, .int .i64 x.rg.ow, .int .i64 x.rg.pa, .slice x.aT x.two.length x.cT, .slice x.aN x.net.length x.cN, .slice x.aG x.ga.length x.cG, .slice x.aL x.ln.length x.cL, .slice x.aS x.sd.length x.cS], .slice aF Fs.length cF] w fun e w' => YN e (bxOk x.p = true ∧ ∀ k, k < Fs.length → Q k) ∧ Below w.heap.size w w' := by
 have hmf : ∀ (fn : Fn) (first cap : Array Value) (w : World), (Instr.makeFunc fn first cap).run Tryz.prog w = .ok (.func fn first cap) w := fun _ _ _ _ => rfl
 obtain ⟨R, hR⟩ : ∃ R : Prop, R = (bxOk x.p = true ∧ ∀ k, k < Fs.length → Q k) := ⟨_, rfl⟩
 rw [← hR]
 replace hR : Hid _ := hR
 obtain ⟨y, hy⟩ := mk_ (((w.alloc (Obj.cells #[.int .i64 x.id, .int .i64 x.po, .int .i64 x.rg.ep, .int .i64 x.rg.ow, .int .i64 x.rg.pa, .slice x.aT x.two.length x.cT, .slice x.aN x.net.length x.cN, .slice x.aG x.ga.length x.cG, .slice x.aL x.ln.length x.cL, .slice x.aS x.sd.length x.cS] 39)).alloc (Obj.cells #[.bool false] 4)).alloc (Obj.cells #[.bool false] 4))
 obtain ⟨w1, h1⟩ := mk_ (w.alloc (Obj.cells #[.int .i64 x.id, .int .i64 x.po, .int .i64 x.rg.ep, .int .i64 x.rg.ow, .int .i64 x.rg.pa, .slice x.aT x.two.length x.cT, .slice x.aN x.net.length x.cN, .slice x.aG x.ga.length x.cG, .slice x.aL x.ln.length x.cL, .slice x.aS x.sd.length x.cS] 39))
 obtain ⟨w2, h2⟩ := mk_ (w1.alloc (Obj.cells #[.bool false] 4))
 have A : BxAt w1 w.heap.size x := by rw [h1]; exact BxAt.new w _ x
 have C1 : FlB w2 w1.heap.size false := by rw [h2]; exact FlB.new w1 false
 have C2 : FlB y w2.heap.size false := by rw [hy, ← h1, ← h2]; exact FlB.new w2 false
 have k1 : Below w.heap.size w w1 := by rw [h1]; exact below_new _
 have k2 : Below w1.heap.size w1 w2 := by rw [h2]; exact below_new _
 have k3 : Below w2.heap.size w2 y := by rw [hy, ← h1, ← h2]; exact below_new _
 have s1 : w1.heap.size = w.heap.size + 1 := by rw [h1]; simp
 have s2 : w2.heap.size = w.heap.size + 1 + 1 := by rw [h2]; simp [s1]
 have A := (A.below k2 A.lt).below k3 (by have := A.lt; have := k2.size; omega)
 have C1 := C1.below k3 C1.lt
 have B : Below w.heap.size w y := (k1.trans (k2.mono k1.size)).trans (k3.mono (by omega))
 rw [s1] at C1
 rw [s2] at C2
 have A := A
 replace k1 : True := trivial
 clear k1 k2 k3 s1 s2
 have J := hJ.later B
 have F := hF.below B (hF.lt fnEnc_len (by omega))
 clear hJ hF
 go_enter_defers Tryz.func27, Tryz.ntmps27
 go_wp2_with fail
 go_at_call 53
 rw [← hy]
 clear hy
 obtain ⟨qh, hqh⟩ := mk_ (w.heap.size + 1)
 obtain ⟨qf, hqf⟩ := mk_ (w.heap.size + 1 + 1)
 rw [← hqf] at C2 ⊢
 rw [← hqh] at C1 ⊢
 replace hqh : w.heap.size ≤ qh ∧ qh < qf ∧ w.heap.size < qh := by omega
 clear hqf
 refine (boxOkI x y J.v).mono ?_
 rintro e u1 ⟨rfl, kq⟩
 have J := J.later kq
 have F := F.below kq (F.lt fnEnc_len (by omega))
 have B1 := B.trans (kq.mono B.size)
 have A := A.below kq A.lt
 have C1 := C1.below kq C1.lt
 have C2 := C2.below kq C2.lt
 clear kq B
 have B := B1
 clear B1
 obtain ⟨ob, hob⟩ : ∃ b, bxOk x.p = b := ⟨_, rfl⟩
 rw [hob]
 cases ob
 ·
  replace hob : Hid _ := hob
  obtain ⟨c2, f2⟩ := C2
  go_wp2
  have C2 := (FlB.mk c2 f2).put true
  have C1 := C1.keep (w' := u1.setCell ⟨qf, 0, none⟩ (.bool true)) (Below.heap_setCell _ _ _ _ (by show qh ≠ qf; omega))
  have B := B.setCell (p := ⟨qf, 0, none⟩) (by show w.heap.size ≤ qf; omega) (.bool true)
  refine leaves_cons (f := 52) (args := #[.pointer (some ⟨qf, 0, none⟩), .pointer (some ⟨qh, 0, none⟩)]) (by simp) (by simp [go_sem]) ?_
  refine (judge1 qf qh true false .returning _ C2.c C1.c C1.f).mono ?_
  rintro e u' w'' ⟨rfl, rfl, rfl⟩
  have C9 := (C1.put false).c
  have B9 : Below w.heap.size w ((u1.setCell ⟨qf, 0, none⟩ (.bool true)).setCell ⟨qh, 0, none⟩ (.bool (!true))) := B.setCell (p := ⟨qh, 0, none⟩) (by show w.heap.size ≤ qh; omega) _
  simp only [Bool.not_true, Bool.not_false] at B9
  simp [Leaves, settle, results, Tryz.results27, go_sem, C9]
  exact ⟨YN.no (by rw [hR.out, hob.out]; rintro ⟨h, _⟩; cases h), B9⟩
 have hc := hc hob
 replace hob : Hid _ := hob
 go_upto_region 6 with fail
 go_loopw [14] (fun i wr => ∃ k : Nat, k ≤ Fs.length ∧ i = .int .i64 (k : Int) ∧ Hid (∀ j, j < k → Q j) ∧ BxAt wr w.heap.size x ∧ FlB wr qh false ∧ FlB wr qf false ∧ BxJ wr x ∧ FView fnEnc wr aF Fs ∧ Below w.heap.size w wr) (fun i _ => Fs.length - (intOf i).toNat)
 case atStart => exact ⟨0, Nat.zero_le _, rfl, fun j hj => absurd hj (by omega), A, C1, C2, J, F, B⟩
 case round =>
  clear A C1 C2 J F B
  obtain ⟨k, hk, rfl, hQ, A, C1, C2, J, F, B⟩ := hrel
  by_cases hlt : k < Fs.length
  ·
   obtain ⟨g, off, rfl, _⟩ := F (by omega)
   obtain ⟨f, hf⟩ : ∃ f, Fs.getD k 0 = f := ⟨_, rfl⟩
   have cF : wr.cell? ⟨g, off + k, none⟩ = some (.func (.func f) #[] #[]) := by have h1 := F.at_ fnEnc_len 0 hlt 0 (.func (.func (Fs.getD k 0)) #[] #[]) rfl; rw [hf] at h1; simpa using h1
   have ef : ∀ (args : Array Value) (w : World), (callFunc (Fs.getD k 0) args).run Tryz.prog w = .ok (.enter (Fs.getD k 0) args) w := hE k hlt
   have hcf := hc k hlt wr J
   rw [hf] at ef hcf
   replace hf : Hid _ := hf
   have cc := A
   obtain ⟨a0, a1, a2, a3, a4, a5, a6, a7, a8, a9⟩ := cc
   go_wp2_with fail
   clear a0 a1 a2 a3 a4 a5 a6 a7 a8 a9
   refine hcf.mono ?_
   rintro e u2 ⟨⟨rb, rfl, hrb⟩, kq⟩
   clear hcf ef cF
   have A := A.below kq A.lt
   have C1 := C1.below kq C1.lt
   have C2 := C2.below kq C2.lt
   have J := J.later kq
   have F := F.below kq (F.lt fnEnc_len (by omega))
   have B := B.trans (kq.mono B.size)
   replace hrb : Hid _ := hrb
   cases rb
   ·
    obtain ⟨c2, f2⟩ := C2
    go_wp2
    have C2 := (FlB.mk c2 f2).put true
    have C1 := C1.keep (w' := u2.setCell ⟨qf, 0, none⟩ (.bool true)) (Below.heap_setCell _ _ _ _ (by show qh ≠ qf; omega))
    have B := B.setCell (p := ⟨qf, 0, none⟩) (by show w.heap.size ≤ qf; omega) (.bool true)
    refine leaves_cons (f := 52) (args := #[.pointer (some ⟨qf, 0, none⟩), .pointer (some ⟨qh, 0, none⟩)]) (by simp) (by simp [go_sem]) ?_
    refine (judge1 qf qh true false .returning _ C2.c C1.c C1.f).mono ?_
    rintro e u' w'' ⟨rfl, rfl, rfl⟩
    have C9 := (C1.put false).c
    have B9 : Below w.heap.size w ((u2.setCell ⟨qf, 0, none⟩ (.bool true)).setCell ⟨qh, 0, none⟩ (.bool (!true))) := B.setCell (p := ⟨qh, 0, none⟩) (by show w.heap.size ≤ qh; omega) _
    simp only [Bool.not_true, Bool.not_false] at B9
    simp [Leaves, settle, results, Tryz.results27, go_sem, C9]
    exact ⟨YN.no (by rw [hR.out]; rintro ⟨_, h⟩; have h1 := hrb.out.2 (h k hlt); cases h1), B9⟩
   ·
    go_wp2
    go_roundw
    case rel =>
     refine ⟨k + 1, by omega, by go_num, fun j hj => ?_, A, C1, C2, J, F, B⟩
     by_cases ej : j = k
     ·
      rw [ej]; first | exact hrb.out.1 rfl | exact hrb.out.1 trivial
     ·
      exact hQ.out j (by omega)
    case measure => simp [intOf]; omega
  ·
   obtain rfl : k = Fs.length := by omega
   go_wp2
   refine leaves_cons (f := 52) (args := #[.pointer (some ⟨qf, 0, none⟩), .pointer (some ⟨qh, 0, none⟩)]) (by simp) (by simp [go_sem]) ?_
   refine (judge1 qf qh false false .returning _ C2.c C1.c C1.f).mono ?_
   rintro e u' w'' ⟨rfl, rfl, rfl⟩
   have C9 := (C1.put true).c
   have B9 : Below w.heap.size w (wr.setCell ⟨qh, 0, none⟩ (.bool (!false))) := B.setCell (p := ⟨qh, 0, none⟩) (by show w.heap.size ≤ qh; omega) _
   simp only [Bool.not_true, Bool.not_false] at B9
   simp [Leaves, settle, results, Tryz.results27, go_sem, C9]
   exact ⟨YN.yes (by rw [hR.out]; exact ⟨hob.out, hQ.out⟩), B9⟩
set_option maxHeartbeats 4000000 in
theorem bofI (id n : Int) (ad : Option Addr) (cap : Nat) (X : List Ik) (w : World) (hv : FView ikEnc w ad X) (hl : X.length ≤ 1048576) :
  Calls Tryz.prog 67 #[.int .i64 id, .int .i64 n, .slice ad X.length cap] w fun e w' => ∃ a c, e = .returned (.agg #[.int .i64 (newI id n), .slice a (ofR id n X).length c]) ∧ FOwn ptEnc 11 113 w.heap.size w' (.slice a (ofR id n X).length c) (ofR id n X) ∧ Below w.heap.size w w' := by
 have hB := hv.lt ikEnc_len (by omega)
 obtain ⟨y, hy⟩ := mk_ (w.alloc (Obj.cells #[.int .i64 0, .slice none 0 0] 69))
 have B0 : Below w.heap.size w y := by rw [hy]; exact below_new _
 have A0 : BBox y w.heap.size 0 (.slice none 0 0) := by rw [hy]; exact BBox.new w _ _ _
 have S0 := A0.lt
 have hR : ofR id n X = ofL (newI id n) (newL id n) X := rfl
 have hNl := newL_small id n
 have hno := fun h => ofR_not (id := id) (n := n) X h
 obtain ⟨I, hI⟩ : ∃ v, newI id n = v := ⟨_, rfl⟩
 obtain ⟨N, hN⟩ : ∃ v, newL id n = v := ⟨_, rfl⟩
 obtain ⟨ok, hok⟩ : ∃ v, nOk id n = v := ⟨_, rfl⟩
 obtain ⟨D, hD⟩ : ∃ v, ofR id n X = v := ⟨_, rfl⟩
 rw [hI, hN, hD] at hR
 rw [hI, hD, hok] at hno
 rw [hN] at hNl
 rw [hI, hD]
 replace hR : Hid _ := hR
 replace hno : Hid _ := hno
 replace hI : Hid _ := hI
 replace hN : Hid _ := hN
 replace hok : Hid _ := hok
 clear hD
 go_enter Tryz.func67, Tryz.ntmps67
 go_wp2_with fail
 go_at_call 68
 rw [← hy]
 clear hy
 refine (newBI id n y).mono ?_
 rintro e u1 ⟨a1, c1, rfl, O1, k1⟩
 rw [hN.out] at O1
 rw [hI.out, hN.out, hok.out]
 clear hI hN hok
 have B1 := B0.trans (k1.mono B0.size)
 have A0 := A0.below k1 A0.lt
 have s1 := k1.size
 have lo1 := O1.lt
 clear k1 B0
 obtain ⟨u2, hu2⟩ := mk_ (u1.alloc (Obj.cells #[.int .i64 I, .slice a1 N.length c1] 69))
 have k2 : Below u1.heap.size u1 u2 := by rw [hu2]; exact below_new _
 have P2 : BBox u2 u1.heap.size I (.slice a1 N.length c1) := by rw [hu2]; exact BBox.new u1 _ _ _
 have B2 := B1.trans (k2.mono B1.size)
 have A0 := A0.below k2 A0.lt
 have O1 := O1.later k2
 have s2 := P2.lt
 go_upto_region 2 with fail
 rw [← hu2]
 clear hu2 k2 B1
 obtain ⟨p, hp⟩ := mk_ u1.heap.size
 rw [← hp] at P2 s1 s2 lo1 ⊢
 clear hp
 have lp : w.heap.size < p := by omega
 cases ok
 ·
  obtain ⟨hD0, hI0⟩ := hno.out rfl
  subst hD0
  subst hI0
  have O9 : FOwn ptEnc 11 113 w.heap.size ((u2.setCell ⟨w.heap.size, 0, none⟩ (.int .i64 0)).setCell ⟨w.heap.size, 1, none⟩ (.slice none 0 0)) (.slice none 0 0) ([] : List Pt) := FOwn.nil
  have B9 : Below w.heap.size w ((u2.setCell ⟨w.heap.size, 0, none⟩ (.int .i64 0)).setCell ⟨w.heap.size, 1, none⟩ (.slice none 0 0)) := (B2.setCell (p := ⟨w.heap.size, 0, none⟩) (Nat.le_refl _) _).setCell (p := ⟨w.heap.size, 1, none⟩) (Nat.le_refl _) _
  obtain ⟨⟨z0, z1⟩, zf⟩ := A0
  have g0 := zf 0
  have g1 := zf 1
  clear zf hR hno O1 lo1 P2 hNl
  go_wp2
  refine bodyPost_ret (v := .agg #[.int .i64 0, .slice none 0 0]) (by simp [results, Tryz.results67, go_sem, *]) rfl ⟨none, 0, rfl, O9, B9⟩
 clear hno
 go_wp2
 go_loopw [22] (fun i wr => ∃ (k : Nat) (a : Option Addr) (c : Nat) (L : List Pt), k ≤ X.length ∧ i = .int .i64 k ∧ ofL I N (X.take k) = L ∧ BBox wr p I (.slice a L.length c) ∧ FOwn ptEnc 11 113 w.heap.size wr (.slice a L.length c) L ∧ (∀ g, (Value.slice a L.length c).ownBlock = some g → g ≠ p ∧ g ≠ w.heap.size) ∧ BBox wr w.heap.size 0 (.slice none 0 0) ∧ Below w.heap.size w wr) (fun i _ => X.length - (intOf i).toNat)
 case atStart => exact ⟨0, a1, c1, N, Nat.zero_le _, rfl, rfl, P2, O1.base (by omega), fun g e => by have := lo1 g e; omega, A0, B2⟩
 case round =>
  obtain ⟨k, a, c, L, hk, rfl, hL, P, O, hne, A, B⟩ := hrel
  have hLl : L.length ≤ 4 := by rw [← hL, ofL_len]; exact hNl
  clear A0 P2 O1 B2 lo1
  by_cases hlt : k < X.length
  ·
   have hst := ofL_step I N X Ik.nil hlt
   rw [hL] at hst
   replace hL : Hid _ := hL
   obtain ⟨b, off, rfl, _⟩ := hv (by omega)
   obtain ⟨x, hh⟩ : ∃ x, X.getD k Ik.nil = x := ⟨_, rfl⟩
   rw [hh] at hst
   have hck : IkAtO wr b (off + k * 8) x := by
    rw [← hh]
    exact ikAtO_of ((hv.below B hB).at_ ikEnc_len Ik.nil hlt)
   have hcB : b < w.heap.size := hB ⟨b, off, none⟩ rfl (by omega)
   replace hst : Hid _ := hst
   clear hh
   have lp2 := P.lt
   have bs := B.size
   have ln := O.lt
   obtain ⟨e0, e1, e2, e3, e4, e5, e6, e7⟩ := hck
   obtain ⟨u, hu⟩ := mk_ (wr.alloc (Obj.cells #[.int .i64 x.k, .int .i64 x.q, .int .i64 x.r, .int .i64 x.c, .int .i64 x.b, .int .i64 x.p, .int .i64 x.h, .bool x.up] 80))
   have ku : Below wr.heap.size wr u := by rw [hu]; exact below_new _
   have U : InAt u wr.heap.size x := by rw [hu]; exact InAt.new wr _ x
   have P := P.below ku P.lt
   have A := A.below ku A.lt
   have O := O.later ku
   have B3 := B.trans (ku.mono B.size)
   have su := ku.size
   go_upto_region 7 with fail
   rw [← hu]
   clear hu ku e0 e1 e2 e3 e4 e5 e6 e7 B
   have cc := P
   obtain ⟨⟨p0, p1⟩, pf⟩ := cc
   obtain ⟨e0, e1, e2, e3, e4, e5, e6, e7⟩ := U
   go_wp2_with fail
   go_at_call 69
   clear p0 p1 pf e0 e1 e2 e3 e4 e5 e6 e7
   refine (reactI I a c L x u O.view.2 (by omega) O.capn).mono ?_
   rintro e w2 ⟨a2, c2, o2, d2, rfl, O2, _, _, k2⟩
   obtain ⟨M, hM⟩ : ∃ M, reactL I L x = M := ⟨_, rfl⟩
   obtain ⟨OO, hOO⟩ : ∃ M, reactO I L x = M := ⟨_, rfl⟩
   rw [hM] at O2 ⊢
   rw [hOO]
   have hst2 : Hid (ofL I N (X.take (k + 1)) = M) := by unfold Hid; rw [hst.out]; exact hM
   clear hM hOO hst
   have P := P.below k2 P.lt
   have A := A.below k2 A.lt
   have B3 := B3.trans (k2.mono B3.size)
   have P9 := P.put I (.slice a2 M.length c2)
   have lo2 := O2.lt
   have O9 : FOwn ptEnc 11 113 w.heap.size ((w2.setCell ⟨p, 0, none⟩ (.int .i64 I)).setCell ⟨p, 1, none⟩ (.slice a2 M.length c2)) (.slice a2 M.length c2) M := (O2.base (by omega)).keep (fun g e => P.put1 I _ g (by have := lo2 g e; omega))
   have A9 := A.keep (P.put1 I (.slice a2 M.length c2) w.heap.size (by omega))
   have B9 : Below w.heap.size w ((w2.setCell ⟨p, 0, none⟩ (.int .i64 I)).setCell ⟨p, 1, none⟩ (.slice a2 M.length c2)) := (B3.setCell (p := ⟨p, 0, none⟩) (by show _ ≤ p; omega) _).setCell (p := ⟨p, 1, none⟩) (by show _ ≤ p; omega) _
   have hne9 : ∀ g, (Value.slice a2 M.length c2).ownBlock = some g → g ≠ p ∧ g ≠ w.heap.size := fun g e => by have := lo2 g e; omega
   clear O O2 hne ln A k2 B3 lo2
   obtain ⟨⟨p0, p1⟩, pf⟩ := P
   have g0 := pf 0
   have g1 := pf 1
   clear pf
   go_wp2
   go_roundw
   case rel => exact ⟨k + 1, a2, c2, M, by omega, by go_num, hst2.out, P9, O9, hne9, A9, B9⟩
   case measure => simp [intOf]; omega
  ·
   obtain rfl : k = X.length := by omega
   rw [List.take_length] at hL
   obtain rfl : D = L := hR.out.trans hL
   have O9 : FOwn ptEnc 11 113 w.heap.size ((wr.setCell ⟨w.heap.size, 0, none⟩ (.int .i64 I)).setCell ⟨w.heap.size, 1, none⟩ (.slice a D.length c)) (.slice a D.length c) D := O.keep (fun g e => A.put1 I _ g (hne g e).2)
   have B9 : Below w.heap.size w ((wr.setCell ⟨w.heap.size, 0, none⟩ (.int .i64 I)).setCell ⟨w.heap.size, 1, none⟩ (.slice a D.length c)) := (B.setCell (p := ⟨w.heap.size, 0, none⟩) (Nat.le_refl _) _).setCell (p := ⟨w.heap.size, 1, none⟩) (Nat.le_refl _) _
   obtain ⟨⟨p0, p1⟩, pf⟩ := P
   obtain ⟨⟨z0, z1⟩, zf⟩ := A
   have g0 := zf 0
   have g1 := zf 1
   clear pf zf hne O B hL hR
   go_wp2
   refine bodyPost_ret (v := .agg #[.int .i64 I, .slice a D.length c]) (by simp [results, Tryz.results67, go_sem, *]) rfl ⟨a, c, rfl, O9, B9⟩
end Go.Proofs.YtnpiljegdiconabGreat
