import Derived.Defers
import Derived.Recover
import Derived.Shelf.Abstract
import Derived.Test.YthgcbihhdbpbdaaGreatRM11
import Derived.Test.YthgcbihhdbpbdaaGreatRM16
import Derived.Lib.AppendZeros
namespace Go.Proofs.YthgcbihhdbpbdaaGreat
open Go.ChangeShapes Go.WideShapes Go.ChangeAt Go.RowKit
open Go.ChangeMaps (open_string shut_string)
set_option linter.unusedVariables false
set_option maxRecDepth 100000
set_option maxHeartbeats 32000000
set_option linter.unusedSimpArgs false
open Go.Proofs.Tryz
def Dp (f : Nat) : List Value := [.func (.func f) #[] #[]]
theorem Fi (f : Nat) : (Dp f).length = 1 := rfl
theorem Gm (p5 p4 : Nat) (b c : Bool) (u : FrameMode) (w : World) (h5 : w.cell? (ja p5 0) = some (.bool b)) (h4 : w.cell? (ja p4 0) = some (.bool c)) (hf : w.frozen? (ja p4 0) = false) :
  CallsD prog 107 #[.pointer (some (ja p5 0)), .pointer (some (ja p4 0))] u w fun e u' w' => u' = u ∧ (e = .returned (.tuple #[]) ∧ w' = w.setCell (ja p4 0) (.bool (!b))) := by
 go_enter_d func107, ntmps107
 go_wp2
 go_end0
 first | exact ⟨rfl, rfl⟩ | simp
structure Cx (w : World) (q : Nat) (b : Bool) : Prop where
 c : w.cell? (ja q 0) = some (.bool b)
 f : w.frozen? (ja q 0) = false
theorem Cx.keep {w w' : World} {q : Nat} {b : Bool} (h : Cx w q b) (k : w'.heap[q]? = w.heap[q]?) : Cx w' q b := ⟨(World.cell?_of_block (a := (ja q 0)) k).trans h.c, (World.frozen?_of_block (a := (ja q 0)) k).trans h.f⟩
theorem Cx.lt {w : World} {q : Nat} {b : Bool} (h : Cx w q b) : q < w.heap.size := World.block_lt_of_cell? w _ h.c
theorem Cx.below {w w' : World} {q n : Nat} {b : Bool} (h : Cx w q b) (k : Below n w w') (hq : q < n) : Cx w' q b := h.keep (k.block q hq)
theorem Cx.put {w : World} {q : Nat} {b : Bool} (h : Cx w q b) (c : Bool) : Cx (w.setCell (ja q 0) (.bool c)) q c := ⟨Aj h.c, by rw [World.frozen?_setCell]; exact h.f⟩
theorem Cx.new (w : World) (b : Bool) : Cx (w.alloc (Obj.cells #[.bool b] 4)) w.heap.size b := ⟨by simp [go_sem], by simp [go_sem]⟩
theorem FX (x : AG) (Fs : List Nat) (Q : Nat → Prop) (aF : Option Addr) (cF : Nat) (w : World) (hJ : Ct w x) (hF : AH Dp w aF Fs) (hl : Fs.length ≤ 8)
  (hE : ∀ k, k < Fs.length → Enters prog (Fs.getD k 0))
  (hc : AX x.p = true → ∀ k, k < Fs.length → ∀ w', Ct w' x → Calls prog (Fs.getD k 0) #[.agg (bc x)] w' fun e w2 => YN e (Q k) ∧ Below w'.heap.size w' w2) :
  Calls prog 66 #[.agg (bc x), .slice aF Fs.length cF] w fun e w' => YN e (AX x.p = true ∧ ∀ k, k < Fs.length → Q k) ∧ Bw w w' := by
 have hmf : ∀ (fn : Fn) (first cap : Array Value) (w : World), (Instr.makeFunc fn first cap).run prog w = .ok (.func fn first cap) w := fun _ _ _ _ => rfl
 obtain ⟨R, hR⟩ : ∃ R : Prop, R = (AX x.p = true ∧ ∀ k, k < Fs.length → Q k) := ⟨_, rfl⟩;rw [← hR];replace hR : Hid _ := hR;obtain ⟨y, hy⟩ := AB (((w.alloc (Obj.cells (bc x) 34)).alloc (Obj.cells #[.bool false] 4)).alloc (Obj.cells #[.bool false] 4));obtain ⟨w1, h1⟩ := AB (w.alloc (Obj.cells (bc x) 34));obtain ⟨w2, h2⟩ := AB (w1.alloc (Obj.cells #[.bool false] 4));have A : AZ w1 w.heap.size x := by rw [h1]; exact AZ.new w _ x
 have C1 : Cx w2 w1.heap.size false := by rw [h2]; exact Cx.new w1 false
 have C2 : Cx y w2.heap.size false := by rw [hy, ← h1, ← h2]; exact Cx.new w2 false
 have k1 : Bw w w1 := by rw [h1]; exact Al _
 have k2 : Bw w1 w2 := by rw [h2]; exact Al _
 have k3 : Bw w2 y := by rw [hy, ← h1, ← h2]; exact Al _
 have s1 : w1.heap.size = w.heap.size + 1 := by rw [h1]; simp
 have s2 : w2.heap.size = w.heap.size + 1 + 1 := by rw [h2]; simp [s1]
 have A := (A.below k2 A.lt).below k3 (by have := A.lt; have := k2.size; omega);have C1 := C1.below k3 C1.lt;have B : Bw w y := (AA k1 k2).trans (k3.mono (by omega));rw [s1] at C1;rw [s2] at C2;have A := A;replace k1 : True := trivial;clear k1 k2 k3 s1 s2;have J := hJ.later B;have F := hF.below B (hF.lt Fi (by omega));clear hJ hF;go_enter_defers func66, ntmps66
 go_wp2_with fail
 go_at_call 16
 rw [← hy];clear hy;obtain ⟨qh, hqh⟩ := AB (w.heap.size + 1);obtain ⟨qf, hqf⟩ := AB (w.heap.size + 1 + 1);rw [← hqf] at C2 ⊢;rw [← hqh] at C1 ⊢;replace hqh : w.heap.size ≤ qh ∧ qh < qf ∧ w.heap.size < qh := by omega
 clear hqf;refine (II x y J.v).mono ?_;rintro e u1 ⟨rfl, kq⟩;have J := J.later kq;have F := F.below kq (F.lt Fi (by omega));have B1 := AA B kq;have A := A.below kq A.lt;have C1 := C1.below kq C1.lt;have C2 := C2.below kq C2.lt;clear kq B;have B := B1;clear B1;obtain ⟨ob, hob⟩ : ∃ b, AX x.p = b := ⟨_, rfl⟩;rw [hob];cases ob
 ·
  replace hob : Hid _ := hob;obtain ⟨c2, f2⟩ := C2;go_wp2
  have C2 := (Cx.mk c2 f2).put true;have C1 := C1.keep (w' := u1.setCell (ja qf 0) (.bool true)) (AE (by show qh ≠ qf; omega));have B := B.setCell (p := (ja qf 0)) (by show w.heap.size ≤ qf; omega) (.bool true);refine leaves_cons (f := 107) (args := #[.pointer (some (ja qf 0)), .pointer (some (ja qh 0))]) (by simp) (by simp [go_sem]) ?_;refine (Gm qf qh true false .returning _ C2.c C1.c C1.f).mono ?_;rintro e u' w'' ⟨rfl, rfl, rfl⟩;have C9 := (C1.put false).c;have B9 : Bw w ((u1.setCell (ja qf 0) (.bool true)).setCell (ja qh 0) (.bool (!true))) := B.setCell (p := (ja qh 0)) (by show w.heap.size ≤ qh; omega) _;simp only [Bool.not_true, Bool.not_false] at B9;simp [Leaves, settle, results, results66, go_sem, C9]
  exact ⟨YN.no (by rw [hR.out, hob.out]; rintro ⟨h, _⟩; cases h), B9⟩
 have hc := hc hob;replace hob : Hid _ := hob;go_upto_region 6 with fail
 go_loopw [14] (fun i wr => ∃ k : Nat, k ≤ Fs.length ∧ i = .int .i64 (k : Int) ∧ Hid (∀ j, j < k → Q j) ∧ AZ wr w.heap.size x ∧ Cx wr qh false ∧ Cx wr qf false ∧ Ct wr x ∧ AH Dp wr aF Fs ∧ Below w.heap.size w wr) (fun i _ => Fs.length - (intOf i).toNat)
 case atStart => exact ⟨0, Nat.zero_le _, rfl, fun j hj => absurd hj (by omega), A, C1, C2, J, F, B⟩
 case round =>
  clear A C1 C2 J F B;obtain ⟨k, hk, rfl, hQ, A, C1, C2, J, F, B⟩ := hrel;by_cases hlt : k < Fs.length
  ·
   obtain ⟨g, off, rfl, _⟩ := F (by omega);obtain ⟨f, hf⟩ : ∃ f, Fs.getD k 0 = f := ⟨_, rfl⟩;have cF : wr.cell? ⟨g, off + k, none⟩ = some (.func (.func f) #[] #[]) := by have h1 := F.at_ Fi 0 hlt 0 (.func (.func (Fs.getD k 0)) #[] #[]) rfl; rw [hf] at h1; simpa using h1
   have ef : ∀ (args : Array Value) (w : World), (callFunc (Fs.getD k 0) args).run prog w = .ok (.enter (Fs.getD k 0) args) w := hE k hlt;have hcf := hc k hlt wr J;rw [hf] at ef hcf;replace hf : Hid _ := hf;have a0 := A.all;go_wp2_with fail
   clear a0;refine hcf.mono ?_;rintro e u2 ⟨⟨rb, rfl, hrb⟩, kq⟩;clear hcf ef cF;have A := A.below kq A.lt;have C1 := C1.below kq C1.lt;have C2 := C2.below kq C2.lt;have J := J.later kq;have F := F.below kq (F.lt Fi (by omega));have B := AA B kq;replace hrb : Hid _ := hrb;cases rb
   ·
    obtain ⟨c2, f2⟩ := C2;go_wp2
    have C2 := (Cx.mk c2 f2).put true;have C1 := C1.keep (w' := u2.setCell (ja qf 0) (.bool true)) (AE (by show qh ≠ qf; omega));have B := B.setCell (p := (ja qf 0)) (by show w.heap.size ≤ qf; omega) (.bool true);refine leaves_cons (f := 107) (args := #[.pointer (some (ja qf 0)), .pointer (some (ja qh 0))]) (by simp) (by simp [go_sem]) ?_;refine (Gm qf qh true false .returning _ C2.c C1.c C1.f).mono ?_;rintro e u' w'' ⟨rfl, rfl, rfl⟩;have C9 := (C1.put false).c;have B9 : Bw w ((u2.setCell (ja qf 0) (.bool true)).setCell (ja qh 0) (.bool (!true))) := B.setCell (p := (ja qh 0)) (by show w.heap.size ≤ qh; omega) _;simp only [Bool.not_true, Bool.not_false] at B9;simp [Leaves, settle, results, results66, go_sem, C9]
    exact ⟨YN.no (by rw [hR.out]; rintro ⟨_, h⟩; have h1 := hrb.out.2 (h k hlt); cases h1), B9⟩
   go_wp2
   go_roundw
   case rel =>
    refine ⟨k + 1, by omega, by go_num, fun j hj => ?_, A, C1, C2, J, F, B⟩;by_cases ej : j = k
    ·
     rw [ej]; first | exact hrb.out.1 rfl | exact hrb.out.1 trivial
    exact hQ.out j (by omega)
   case measure => simp [intOf]; omega
  obtain rfl : k = Fs.length := by omega
  go_wp2
  refine leaves_cons (f := 107) (args := #[.pointer (some (ja qf 0)), .pointer (some (ja qh 0))]) (by simp) (by simp [go_sem]) ?_;refine (Gm qf qh false false .returning _ C2.c C1.c C1.f).mono ?_;rintro e u' w'' ⟨rfl, rfl, rfl⟩;have C9 := (C1.put true).c;have B9 : Bw w (wr.setCell (ja qh 0) (.bool (!false))) := B.setCell (p := (ja qh 0)) (by show w.heap.size ≤ qh; omega) _;simp only [Bool.not_true, Bool.not_false] at B9;simp [Leaves, settle, results, results66, go_sem, C9]
  exact ⟨YN.yes (by rw [hR.out]; exact ⟨hob.out, hQ.out⟩), B9⟩
attribute [local go_sem] ji ja mc
theorem KB (r : Rg) (s : Int) (m : Mi) (ad : Option Addr) (cap : Nat) (w : World) (hv : AH AS w ad m.lg) (hl : m.lg.length ≤ 1048577) :
  Calls prog 24 #[.agg #[ji r.ep, ji r.ow, ji r.pa], ji s, .agg #[.bool m.up, ji m.li, ji m.ep, .slice ad m.lg.length cap, ji m.sd, ji m.ac, ji m.al]] w fun e w' => e = .returned (.bool (Cz r s m)) ∧ Bw w w' := by
 have hB := hv.lt Aa (by omega);obtain ⟨R, hR⟩ := AB (Cz r s m);rw [← hR];replace hR : Hid _ := hR;obtain ⟨y, hy⟩ := AB ((w.alloc (Obj.cells #[ji r.ep, ji r.ow, ji r.pa] 27)).alloc (Obj.cells (mc m ad cap) 52));have B0 : Bw w y := by rw [hy]; exact ((Below.refl _ _).alloc (Nat.le_refl _) _).alloc (by simp) _
 have A : An y w.heap.size r := by rw [hy]; constructor <;> simp [go_sem]
 have M : Ag y (w.heap.size + 1) m (.slice ad m.lg.length cap) := by rw [hy]; constructor <;> simp [go_sem]
 have S0 := M.lt;have hv1 := hv.below B0 hB;clear hv hB;go_enter func24, ntmps24
 go_upto_region 1 with fail
 rw [← hy];clear hy;refine AR (fun Y => Bw y Y) fun u0 hb0 => ?_
 refine tw 0 7 (.agg #[ji r.ep, ji r.ow, ji r.pa]) ?_ (hy := by intro Y hSw; have X := (A.below hSw A.lt).all; go_simp);refine w1 1 fun Kz hKz => ?_
 go_simp
 go_at_call 48
 refine (IA r u0).mono ?_;rintro e u1 ⟨rfl, kq⟩;have hb1 := AA hb0 kq;clear kq;refine hKz _ _ ⟨hb1, ?_⟩;clear hKz Kz;cases h1 : (BR r)
 ·
  replace h1 : Hid _ := h1;refine tw 2 9 (.bool false) ?_;refine ts 3 10 ?_;refine ts 4 11 ?_;refine tw 5 12 (.bool false) ?_;refine tw 6 13 (.bool false) ?_;refine ts 7 14 ?_;refine ts 8 15 ?_;refine tw 9 16 (.bool false) ?_;refine tw 10 17 (.bool false) ?_;refine ts 11 18 ?_;refine ts 13 20 ?_;refine ts 14 21 ?_;refine ts 15 22 ?_;refine ts 12 19 ?_;refine ts 16 23 ?_;refine tw 17 24 (.bool false) ?_;refine tw 18 6 (.bool false) ?_;refine AM ?_;have hN : Hid (R = false) := by unfold Hid; rw [hR.out]; unfold Cz; rw [h1.out]; rfl
  go_wp2
  go_ret
  exact ⟨by rw [hN.out]; rfl, AA B0 hb1⟩
 replace h1 : Hid _ := h1;refine tw 2 9 (.bool true) ?_;refine tw 3 10 (.agg (mc m ad cap)) ?_ (hy := by intro Y hSw; have X := (M.below hSw M.lt).all; go_simp);refine w1 4 fun Kz hKz => ?_
 go_simp
 go_at_call 71
 refine (IM m ad cap u1 (hv1.below hb1 (hv1.lt Aa (by omega))) hl).mono ?_;rintro e u2 ⟨rfl, kq⟩;have hb2 := AA hb1 kq;clear kq;refine hKz _ _ ⟨hb2, ?_⟩;clear hKz Kz;cases h2 : (Aq m)
 ·
  replace h2 : Hid _ := h2;refine tw 5 12 (.bool false) ?_;refine tw 6 13 (.bool false) ?_;refine ts 7 14 ?_;refine ts 8 15 ?_;refine tw 9 16 (.bool false) ?_;refine tw 10 17 (.bool false) ?_;refine ts 11 18 ?_;refine ts 13 20 ?_;refine ts 14 21 ?_;refine ts 15 22 ?_;refine ts 12 19 ?_;refine ts 16 23 ?_;refine tw 17 24 (.bool false) ?_;refine tw 18 6 (.bool false) ?_;refine AM ?_;have hN : Hid (R = false) := by unfold Hid; rw [hR.out]; unfold Cz; rw [h1.out, h2.out]; rfl
  go_wp2
  go_ret
  exact ⟨by rw [hN.out]; rfl, AA B0 hb2⟩
 replace h2 : Hid _ := h2;refine tw 5 12 (.bool true) ?_;refine tw 6 13 (.bool true) ?_;refine tw 7 14 (.pointer (some ⟨w.heap.size + 1, 0, none⟩)) ?_;refine tw 8 15 (.bool (m.up)) ?_ (hy := by intro Y hSw; have X := (M.below hSw M.lt).all; go_simp);cases h3 : (m.up)
 ·
  replace h3 : Hid _ := h3;refine tw 9 16 (.bool false) ?_;refine tw 10 17 (.bool false) ?_;refine ts 11 18 ?_;refine ts 13 20 ?_;refine ts 14 21 ?_;refine ts 15 22 ?_;refine ts 12 19 ?_;refine ts 16 23 ?_;refine tw 17 24 (.bool false) ?_;refine tw 18 6 (.bool false) ?_;refine AM ?_;have hN : Hid (R = false) := by unfold Hid; rw [hR.out]; unfold Cz; rw [h1.out, h2.out, h3.out]; rfl
  go_wp2
  go_ret
  exact ⟨by rw [hN.out]; rfl, AA B0 hb2⟩
 replace h3 : Hid _ := h3;refine tw 9 16 (.bool true) ?_;refine tw 10 17 (.bool true) ?_;refine tw 11 18 (.agg #[ji r.ep, ji r.ow, ji r.pa]) ?_ (hy := by intro Y hSw; have X := (A.below hSw A.lt).all; go_simp);refine tw 13 20 (ji s) ?_;refine tw 14 21 (.pointer (some ⟨w.heap.size + 1, 2, none⟩)) ?_;refine tw 15 22 (ji m.ep) ?_ (hy := by intro Y hSw; have X := (M.below hSw M.lt).all; go_simp);refine w1 12 fun Kz hKz => ?_
 go_simp
 go_at_call 72
 refine (J7 r u2).mono ?_;rintro e u3 ⟨qg, rfl, G, lg, kq⟩;have hb3 := AA hb2 kq;have lg2 : y.heap.size ≤ qg := by have := hb2.size; omega
 clear kq lg;refine hKz _ _ ⟨hb3, ?_⟩;clear hKz Kz;refine w1 16 fun Kz hKz => ?_
 go_simp
 go_at_call 73
 refine (LD r s m.ep qg u3 G).mono ?_;rintro e u4 ⟨rfl, G', tq⟩;have hb4 : Bw y u4 := hb3.trans (tq.below hb3.size lg2 (fun g e => by cases e));clear tq G';refine hKz _ _ ⟨hb4, ?_⟩;clear hKz Kz;refine tw 17 24 (.bool (decide (r.ow = s) && decide (r.ep = m.ep))) ?_;refine tw 18 6 (.bool (decide (r.ow = s) && decide (r.ep = m.ep))) ?_;refine AM ?_;have hN : Hid (R = (decide (r.ow = s) && decide (r.ep = m.ep))) := by unfold Hid; rw [hR.out]; unfold Cz; rw [h1.out, h2.out, h3.out]; simp [eq_comm]
 go_wp2
 go_ret
 exact ⟨by rw [hN.out]; rfl, AA B0 hb4⟩
attribute [local go_sem] bc
theorem JG (x : AG) (s : Int) (w : World) (hV : Cs w x) :
  Calls prog 60 #[.agg (bc x), ji s] w fun e w' => e = .returned (.bool (Bh x.p s)) ∧ Bw w w' := by
 obtain ⟨R, hR⟩ := AB (Bh x.p s);rw [← hR];replace hR : Hid _ := hR;obtain ⟨y, hy, B0⟩ := AI w (Obj.cells (bc x) 34);have A : AZ y w.heap.size x := by rw [hy]; exact AZ.new w _ x
 have V := hV.later B0;go_enter func60, ntmps60
 go_upto_region 1 with fail
 rw [← hy];clear hy hV;refine AR (fun Y => Bw y Y) fun u0 hb0 => ?_
 refine tw 0 5 (ji s) ?_;by_cases h1 : 0 ≤ s
 focus
  have d1 : decide (0 ≤ s) = true := decide_eq_true h1;refine tw 1 6 (.bool true) ?_;refine tw 2 7 (.bool true) ?_;refine tw 3 8 (ji s) ?_;refine tw 4 9 (.pointer (some (ja w.heap.size 5))) ?_;refine tw 5 10 (.slice x.aT x.two.length x.cT) ?_ (hy := by intro Y hSw; have X := (A.below hSw A.lt).all; go_simp);refine tw 6 11 (ji (x.two.length : Int)) ?_;by_cases h2 : s < (x.two.length : Int)
  ·
   have d2 : decide (s < (x.two.length : Int)) = true := decide_eq_true h2;refine tw 7 12 (.bool true) ?_;refine tw 8 13 (.bool true) ?_;refine tw 9 14 (.bool true) ?_;clear d1 d2;obtain ⟨k, rfl⟩ : ∃ k : Nat, s = (k : Int) := ⟨s.toNat, by omega⟩;have hk : k < x.two.length := by omega
   have hcap := V.ct;obtain ⟨d, hd⟩ : ∃ d, x.two.getD k AF.nil = d := ⟨_, rfl⟩;have hvl := V.l k hk;have hll := V.bl k hk;rw [hd] at hvl hll;have hN : Hid (R = Cz x.rg (k : Int) d.m) := by unfold Hid; rw [hR.out]; unfold Bh; rw [show decide (0 ≤ (k : Int) ∧ (k : Int) < ((x.p.two).length : Int)) = true from decide_eq_true (by rw [Ew]; omega), CC, Int.toNat_natCast, hd]; rfl
   obtain ⟨b, off, hat, _⟩ := V.t (by omega);have hck : ∀ Y, Bw y Y → BE Y b (off + k * 7) d := fun Y hY => by have ht := (V.later hY).t; rw [hat] at ht; rw [← hd]; exact CJ (ht.at_ Au AF.nil hk)
   replace hd : Hid _ := hd;clear h1 h2;refine tw 10 15 (.pointer (some (ja w.heap.size 2))) ?_;refine tw 11 16 (.agg #[ji x.rg.ep, ji x.rg.ow, ji x.rg.pa]) ?_ (hy := by intro Y hSw; have X := (A.below hSw A.lt).all; go_simp);refine tw 12 17 (ji (k : Int)) ?_;refine tw 13 18 (.pointer (some (ja w.heap.size 5))) ?_;refine tw 14 19 (.slice (some (ja b off)) x.two.length x.cT) ?_ (hy := by intro Y hSw; have X := (A.below hSw A.lt).all; rw [hat] at X; go_simp);refine tw 15 20 (ji (k : Int)) ?_;refine tw 16 21 (.pointer (some ⟨b, off + k * 7, none⟩)) ?_ (hy := by intro Y hSw; go_simp; try omega);refine tw 17 22 (.agg (mc d.m d.ad d.cap)) ?_ (hy := by intro Y hSw; have X := (hck Y hSw).all; go_simp);refine w1 18 fun Kz hKz => ?_
   go_simp
   go_at_call 24
   refine (KB x.rg (k : Int) d.m d.ad d.cap u0 (hvl.below hb0 (hvl.lt Aa (by omega))) (by omega)).mono ?_;rintro e u2 ⟨rfl, kq⟩;rw [← hN.out];have hb2 := AA hb0 kq;clear kq;refine hKz _ _ ⟨hb2, ?_⟩;clear hKz Kz;refine tw 19 24 (.bool R) ?_;refine tw 20 4 (.bool R) ?_;refine AM ?_;go_wp2
   go_ret
   exact ⟨rfl, AA B0 hb2⟩
  focus
   have d2 : decide (s < (x.two.length : Int)) = false := decide_eq_false h2;have hN : Hid (R = false) := by unfold Hid; rw [hR.out]; unfold Bh; rw [show decide (0 ≤ s ∧ s < ((x.p.two).length : Int)) = false from decide_eq_false (by rw [Ew]; omega)]; rfl
   refine tw 7 12 (.bool false) ?_
  rotate_left
 rotate_left;focus
  have d1 : decide (0 ≤ s) = false := decide_eq_false h1;have hN : Hid (R = false) := by unfold Hid; rw [hR.out]; unfold Bh; rw [show decide (0 ≤ s ∧ s < ((x.p.two).length : Int)) = false from decide_eq_false (by omega)]; rfl
  refine tw 1 6 (.bool false) ?_;refine tw 2 7 (.bool false) ?_;refine ts 3 8 ?_;refine ts 4 9 ?_;refine ts 5 10 ?_;refine ts 6 11 ?_;refine ts 7 12 ?_
 rotate_left;all_goals
  refine tw 8 13 (.bool false) ?_;refine tw 9 14 (.bool false) ?_;refine ts 10 15 ?_;refine ts 11 16 ?_;refine ts 12 17 ?_;refine ts 13 18 ?_;refine ts 14 19 ?_;refine ts 15 20 ?_;refine ts 16 21 ?_;refine ts 17 22 ?_;refine ts 18 23 ?_;refine tw 19 24 (.bool false) ?_;refine tw 20 4 (.bool false) ?_;refine AM ?_;go_wp2
  go_ret
  exact ⟨by rw [hN.out]; rfl, AA B0 hb0⟩
theorem Km (x : AG) (q : Nat) (w : World) (hA : AZ w q x) (hV : Cs w x) :
  Calls prog 112 #[.pointer (some (ja q 0))] w fun e w' => e = .returned (.tuple #[ji x.rg.ow, .bool (Bh x.p x.rg.ow)]) ∧ Bw w w' := by
 have A := hA;have J := hV;go_enter func112, ntmps112
 go_upto_region 1 with fail
 refine AR (fun Y => Bw w Y) fun u0 hb0 => ?_
 refine tw 0 4 (.pointer (some (ja q 0))) ?_;refine tw 1 5 (.pointer (some (ja q 0))) ?_;refine tw 2 6 (.pointer (some (ja q 2))) ?_;refine tw 3 7 (.pointer (some (ja q 3))) ?_;refine tw 4 8 (ji x.rg.ow) ?_ (hy := by intro Y hSw; have X := (A.below hSw A.lt).all; go_simp);refine tw 5 9 (.pointer (some (ja q 0))) ?_;refine tw 6 10 (.pointer (some (ja q 0))) ?_;refine tw 7 11 (.agg (bc x)) ?_ (hy := by intro Y hSw; have X := (A.below hSw A.lt).all; go_simp);refine tw 8 12 (.pointer (some (ja q 0))) ?_;refine tw 9 13 (.pointer (some (ja q 0))) ?_;refine tw 10 14 (.pointer (some (ja q 2))) ?_;refine tw 11 15 (.pointer (some (ja q 3))) ?_;refine tw 12 16 (ji x.rg.ow) ?_ (hy := by intro Y hSw; have X := (A.below hSw A.lt).all; go_simp);refine w1 13 fun Kz hKz => ?_
 go_simp
 go_at_call 60
 refine (JG x x.rg.ow u0 (J.later hb0)).mono ?_;rintro e u1 ⟨rfl, kq⟩;have hb1 := AA hb0 kq;clear kq;refine hKz _ _ ⟨hb1, ?_⟩;clear hKz Kz;refine tw 14 2 (ji x.rg.ow) ?_;refine tw 15 3 (.bool (Bh x.p x.rg.ow)) ?_;refine AM ?_;go_wp2
 refine bodyPost_ret (v := .tuple #[ji x.rg.ow, .bool (Bh x.p x.rg.ow)]) (by simp [results, results112, go_sem, *]) rfl ⟨rfl, hb1⟩
theorem IL (x : AG) (w : World) (hJ : Ct w x) (hb : AX x.p = true) :
  Calls prog 69 #[.agg (bc x)] w fun e w' => YN e (Da x.p) ∧ Bw w w' := by
 obtain ⟨Q, hQ⟩ : ∃ Q : Prop, Q = (Da x.p) := ⟨_, rfl⟩;rw [← hQ];replace hQ : Hid _ := hQ;obtain ⟨y, hy, B⟩ := AI w (Obj.cells (bc x) 34);have A : AZ y w.heap.size x := by rw [hy]; exact AZ.new w _ x
 have J := hJ.later B;obtain ⟨o0, o1⟩ := E2 hb;obtain ⟨k, hk⟩ : ∃ k : Nat, x.rg.ow = (k : Int) := ⟨x.rg.ow.toNat, by omega⟩;have hk2 : k < 2 := by omega
 obtain ⟨h2, _⟩ := DU hb;have hkl : k < x.two.length := by omega
 have hmo : AT x.p x.rg.ow = (x.two.getD k AF.nil).m := by rw [hk, CC]; simp only [Int.toNat_natCast]
 obtain ⟨mb, hmb⟩ : ∃ b, Bh x.p x.rg.ow = b := ⟨_, rfl⟩;have hQ2 : Hid (Q ↔ (mb = true → CU x.ln (x.two.getD k AF.nil).m.lg ∧ (x.two.getD k AF.nil).m.sd = (x.ln.length : Int))) := by unfold Hid; rw [hQ.out]; unfold Da; show (Bh x.p x.rg.ow = true → CU x.ln (AT x.p x.rg.ow).lg ∧ (AT x.p x.rg.ow).sd = (x.ln.length : Int)) ↔ _; rw [hmo, hmb]
 have hln : x.ln.length ≤ 60 := (DU hb).2.2.2.2.1;clear hQ hmo o0 o1 h2;replace hb : Hid _ := hb;replace hmb : Hid _ := hmb;replace hk : Hid _ := hk;go_enter func69, ntmps69
 go_upto_region 1 with fail
 rw [← hy];clear hy;go_wp2_with fail
 go_at_call 112
 refine (Km x w.heap.size y A J.v).mono ?_;rintro e u1 ⟨rfl, kq⟩;rw [hmb.out, hk.out];have A := A.below kq A.lt;have J := J.later kq;have B := AA B kq;clear kq;go_upto_region 2 with fail
 cases mb
 ·
  refine AR (fun Y => Bw u1 Y) fun u0 hb0 => ?_
  refine tw 0 9 (.bool false) ?_;refine tw 1 10 (.bool true) ?_;refine tw 2 11 (.bool true) ?_;refine ts 3 12 ?_;refine ts 4 13 ?_;refine ts 5 14 ?_;refine ts 6 15 ?_;refine ts 7 16 ?_;refine ts 8 17 ?_;refine ts 9 18 ?_;refine ts 10 19 ?_;refine ts 11 20 ?_;refine ts 12 21 ?_;refine ts 13 22 ?_;refine ts 14 23 ?_;refine ts 15 24 ?_;refine ts 16 25 ?_;refine tw 17 26 (.bool true) ?_;refine tw 18 2 (.bool true) ?_;refine AM ?_;have B := AA B hb0;go_wp2
  go_ret
  exact ⟨YN.yes (hQ2.out.2 (fun h => by cases h)), B⟩
 obtain ⟨g, off, hat, _⟩ := J.v.t (by omega);obtain ⟨m, hm⟩ : ∃ m, x.two.getD k AF.nil = m := ⟨_, rfl⟩;have M0 : BE u1 g (off + k * 7) m := by have h1 := J.v.t; rw [hat] at h1; have := CJ (h1.at_ Au AF.nil hkl); rw [hm] at this; exact this
 have gl : g < u1.heap.size := J.v.t.lt Au (by omega) _ hat (by omega);replace hat : Hid _ := hat;have hQ3 : Hid (Q ↔ CU x.ln m.m.lg ∧ m.m.sd = (x.ln.length : Int)) := by unfold Hid; rw [hQ2.out, hm]; exact ⟨fun h => h rfl, fun h _ => h⟩
 have hbm : Hid (∀ rc : Bool, (rc = true ↔ CU x.ln (x.two.getD k AF.nil).m.lg) → (rc = true ↔ CU x.ln m.m.lg)) := by unfold Hid; intro rc h; rw [hm] at h; exact h
 clear hm hQ2;refine AR (fun Y => Bw u1 Y) fun u0 hb0 => ?_
 refine tw 0 9 (.bool true) ?_;refine tw 1 10 (.bool false) ?_;refine tw 2 11 (.bool false) ?_;refine tw 3 12 (.agg (bc x)) ?_ (hy := by intro Y hSw; have X := (A.below hSw A.lt).all; go_simp);refine tw 4 13 (ji (k : Int)) ?_;refine w1 5 fun Kz hKz => ?_
 go_simp
 go_at_call 113
 refine (H8 x k hk2 u0 (J.later hb0) hb.out).mono ?_;rintro e u2 ⟨⟨rc, rfl, hrc0⟩, kq⟩;have hb1 := AA hb0 kq;have hrc : Hid (rc = true ↔ CU x.ln m.m.lg) := hbm.out rc hrc0;clear kq hrc0 hbm;refine hKz _ _ ⟨hb1, ?_⟩;clear hKz Kz;cases rc
 ·
  refine tw 6 15 (.bool false) ?_;refine ts 7 16 ?_;refine ts 8 17 ?_;refine ts 9 18 ?_;refine ts 10 19 ?_;refine ts 11 20 ?_;refine ts 12 21 ?_;refine ts 13 22 ?_;refine ts 14 23 ?_;refine ts 15 24 ?_;refine tw 16 25 (.bool false) ?_;refine tw 17 26 (.bool false) ?_;refine tw 18 2 (.bool false) ?_;refine AM ?_;have B := AA B hb1;go_wp2
  go_ret
  exact ⟨YN.no (fun q_ => by have h1 := (hQ3.out.1 q_).1; have h2 := hrc.out.2 h1; first | cases h2 | exact h2.elim), B⟩
 refine tw 6 15 (.bool true) ?_;refine tw 7 16 (.pointer (some (ja w.heap.size 5))) ?_;refine tw 8 17 (.slice (some (ja g off)) x.two.length x.cT) ?_ (hy := by intro Y hSw; have X := (A.below hSw A.lt).all; rw [hat.out] at X; go_simp);refine tw 9 18 (ji (k : Int)) ?_;refine tw 10 19 (.pointer (some ⟨g, off + k * 7, none⟩)) ?_ (hy := by intro Y hSw; go_simp; try omega);refine tw 11 20 (.pointer (some ⟨g, off + k * 7 + 4, none⟩)) ?_;refine tw 12 21 (ji m.m.sd) ?_ (hy := by intro Y hSw; have X := (M0.belowJ hSw gl).all; go_simp);refine tw 13 22 (.agg (bc x)) ?_ (hy := by intro Y hSw; have X := (A.below hSw A.lt).all; go_simp);refine w1 14 fun Kz hKz => ?_
 go_simp
 go_at_call 18
 refine (IZ x u2 (by omega)).mono ?_;rintro e u3 ⟨rfl, kq⟩;have hb2 := AA hb1 kq;clear kq;refine hKz _ _ ⟨hb2, ?_⟩;clear hKz Kz;have hbj : Hid (CU x.ln m.m.lg) := by unfold Hid; first | exact hrc.out.1 rfl | exact hrc.out.1 trivial
 clear hrc;by_cases hs : m.m.sd = (x.ln.length : Int)
 ·
  have hd : (m.m.sd == (x.ln.length : Int)) = true := by simpa using hs
  replace hs : Hid (m.m.sd = (x.ln.length : Int)) := hs;refine tw 15 24 (.bool true) ?_;refine tw 16 25 (.bool true) ?_;refine tw 17 26 (.bool true) ?_;refine tw 18 2 (.bool true) ?_;refine AM ?_;have B := AA B hb2;go_wp2
  go_ret
  exact ⟨YN.yes (hQ3.out.2 ⟨hbj.out, hs.out⟩), B⟩
 have hd : (m.m.sd == (x.ln.length : Int)) = false := by simpa using hs
 replace hs : Hid (¬ m.m.sd = (x.ln.length : Int)) := hs;refine tw 15 24 (.bool false) ?_;refine tw 16 25 (.bool false) ?_;refine tw 17 26 (.bool false) ?_;refine tw 18 2 (.bool false) ?_;refine AM ?_;have B := AA B hb2;go_wp2
 go_ret
 exact ⟨YN.no (fun q_ => hs.out (hQ3.out.1 q_).2), B⟩
theorem Hs (x : AG) (w : World) (hJ : Ct w x) (hb : AX x.p = true) :
  Calls prog 67 #[.agg (bc x)] w fun e w' => YN e (Dh x.p) ∧ Bw w w' := by
 obtain ⟨Q, hQ⟩ : ∃ Q : Prop, Q = (Dh x.p) := ⟨_, rfl⟩;rw [← hQ];replace hQ : Hid _ := hQ;obtain ⟨y, hy, B⟩ := AI w (Obj.cells (bc x) 34);have A : AZ y w.heap.size x := by rw [hy]; exact AZ.new w _ x
 have J := hJ.later B;have hln : x.ln.length ≤ 60 := (DU hb).2.2.2.2.1;have hga : x.ga.length ≤ 4 := (DU hb).2.2.2.1;have hQ2 : Hid (Q ↔ x.ga = BK (Ck x.id x.po x.ln)) := by unfold Hid; rw [hQ.out]; unfold Dh; exact eq_comm
 have hR4 := Ga x.id x.po x.ln;have hG4 := Ed (Ck x.id x.po x.ln);obtain ⟨I, hI⟩ : ∃ v, Bf x.id x.po = v := ⟨_, rfl⟩;obtain ⟨D, hD⟩ : ∃ v, Ck x.id x.po x.ln = v := ⟨_, rfl⟩;rw [hD] at hQ2 hR4 hG4;obtain ⟨G, hG⟩ : ∃ v, BK D = v := ⟨_, rfl⟩;rw [hG] at hQ2 hG4;have hG5 : G.length ≤ 4 := by omega
 replace hI : Hid _ := hI;replace hD : Hid _ := hD;replace hG : Hid _ := hG;clear hQ hb hG4;go_enter func67, ntmps67
 go_upto_region 1 with fail
 rw [← hy];clear hy;refine AR (fun Y => Bw y Y) fun u0 hb0 => ?_
 refine tw 0 3 (.pointer (some (ja w.heap.size 7))) ?_;refine tw 1 4 (.slice x.aG x.ga.length x.cG) ?_ (hy := by intro Y hSw; have X := (A.below hSw A.lt).all; go_simp);refine tw 2 5 (.pointer (some (ja w.heap.size 0))) ?_;refine tw 3 6 (ji x.id) ?_ (hy := by intro Y hSw; have X := (A.below hSw A.lt).all; go_simp);refine tw 4 7 (.pointer (some (ja w.heap.size 1))) ?_;refine tw 5 8 (ji x.po) ?_ (hy := by intro Y hSw; have X := (A.below hSw A.lt).all; go_simp);refine tw 6 9 (.pointer (some (ja w.heap.size 8))) ?_;refine tw 7 10 (.slice x.aL x.ln.length x.cL) ?_ (hy := by intro Y hSw; have X := (A.below hSw A.lt).all; go_simp);refine w1 8 fun Kz hKz => ?_
 go_simp
 go_at_call 109
 refine (Lh x.id x.po x.aL x.cL x.ln u0 (J.later hb0).v.i (by omega)).mono ?_;rintro e u1 ⟨a1, c1, rfl, O1, kq⟩;have hb1 := AA hb0 kq;clear kq;rw [hD.out] at O1;rw [hI.out, hD.out];refine hKz _ _ ⟨hb1, ?_⟩;clear hKz Kz;refine w1 9 fun Kz hKz => ?_
 go_simp
 go_at_call 34
 refine (JK I a1 c1 D u1 O1.view.2 (by omega)).mono ?_;rintro e u2 ⟨a2, c2, rfl, O2, kq⟩;have hb2 := AA hb1 kq;clear kq;rw [hG.out] at O2;rw [hG.out];refine hKz _ _ ⟨hb2, ?_⟩;clear hKz Kz;refine w1 10 fun Kz hKz => ?_
 go_simp
 go_at_call 108
 refine (LW x.aG a2 x.cG c2 x.ga G u2 (J.later hb2).v.g O2.view.2 (by omega) (by omega)).mono ?_;rintro e u3 ⟨⟨rb, rfl, hrb⟩, kq⟩;have hb3 := AA hb2 kq;clear kq;replace hrb : Hid _ := hrb;refine hKz _ _ ⟨hb3, ?_⟩;clear hKz Kz;refine tw 11 2 (.bool rb) ?_;refine AM ?_;have B := AA B hb3;go_wp2
 go_ret
 exact ⟨YN.is (by rw [hQ2.out]; exact hrb.out), B⟩
theorem LL (n : Int) (w : World) (h0 : 0 ≤ n) (h1 : n ≤ 3000000) :
  Calls prog 133 #[.slice none 0 0, ji n] w fun e w' => ∃ ad cap, e = .returned (.slice ad 0 cap) ∧ AD Ad 8 77 w.heap.size w' (.slice ad 0 cap) [] ∧ Bw w w' := by
 obtain ⟨i0, hi, hz0, hz1, hz2⟩ := info_parts ES;have d0 : decide (n < 0) = false := decide_eq_false (by omega);have d1 : ¬ n < 0 := by omega
 have hw : IntKind.i64.wrap n = n := by rw [IntKind.wrap_i64]; omega
 by_cases hn : n = 0
 ·
  subst hn;go_enter func133, ntmps133
  go_wp2
  go_ret
  exact ⟨none, 0, rfl, AD.nil, Below.refl _ _⟩
 obtain ⟨m, rfl⟩ := Int.eq_ofNat_of_zero_le h0;have hm : 0 < m := by omega
 have d2 : decide (0 < (m : Int)) = true := decide_eq_true (by omega);have d3 : 0 < (m : Int) := by omega
 have hr : ∀ ty, (Builtin.append_ #[32, 3] ty #[.slice none 0 0, ji (m : Int)]).run prog w = _ := fun ty => Lib.run_append_nil_zeros w 32 3 ty 77 i0 (.agg #[ji 0, ji 0, ji 0, ji 0, ji 0, ji 0, ji 0, .bool false]) .i64 .i64 underlying32 underlying3 hi hz0 m hm (by omega) (by omega) (by rw [hz2]; omega)
 obtain ⟨c, hc⟩ : ∃ c, grownCap w m 0 77 = c := ⟨_, rfl⟩;have hc1 : m ≤ c := by rw [← hc]; exact grownCap_ge w m 0 _
 have hc2 : c ≤ maxLen := by rw [← hc]; exact grownCap_le_maxLen w m 0 _ (by unfold maxLen; omega)
 rw [hc] at hr;replace hc : Hid _ := hc;obtain ⟨w1, hw1⟩ := AB (w.drew.alloc (.cells (Builtin.zeroCells (Value.cells (.agg #[ji 0, ji 0, ji 0, ji 0, ji 0, ji 0, ji 0, .bool false])) m ++ Builtin.zeroCells (Value.cells (.agg #[ji 0, ji 0, ji 0, ji 0, ji 0, ji 0, ji 0, .bool false])) (c - m)) 77));have B1 : Bw w w1 := by
  rw [hw1];exact ((Below.refl _ _).drew).alloc (by simp) _
 have O1 : AD Ad 8 77 w.heap.size w1 (.slice (some (ja w.heap.size 0)) 0 c) [] := by
  refine ⟨by simp [Ac], .inr ⟨w.heap.size, c, Builtin.zeroCells (Value.cells (.agg #[ji 0, ji 0, ji 0, ji 0, ji 0, ji 0, ji 0, .bool false])) m ++ Builtin.zeroCells (Value.cells (.agg #[ji 0, ji 0, ji 0, ji 0, ji 0, ji 0, ji 0, .bool false])) (c - m), rfl, Nat.le_refl _, ?_, Nat.zero_le _, hc2, ?_, by simp [Ac]⟩⟩
  ·
   rw [hw1];exact Cy w.drew _
  simp [Builtin.zeroCells, Value.cells]
  omega
 rw [← hw1] at hr;clear hw1;go_enter func133, ntmps133
 go_wp2_with (at_builtin; refine Lib.wpList_append_run _ rfl _ _ _ _ rfl _ _ rfl rfl _ _ (hr _) ?_)
 go_wp2
 go_ret
 exact ⟨_, _, rfl, O1, B1⟩
theorem Jr (q : Nat) (a1 a2 : Option Addr) (c1 c2 : Nat) (L1 L2 : List Ou) (w : World) (h1 : w.cell? (ja q 0) = some (.slice a1 L1.length c1)) (h2 : w.cell? (ja q 1) = some (.slice a2 L2.length c2)) (v1 : AH Ad w a1 L1) (v2 : AH Ad w a2 L2) (n1 : a1 = none → c1 = 0) (n2 : a2 = none → c2 = 0) (l1 : L1.length ≤ 1048576) (l2 : L2.length ≤ 1048576) :
  Calls prog 104 #[.slice (some (ja q 0)) 2 2] w fun e w' => ∃ ad cap, e = .returned (.slice ad (L1 ++ L2).length cap) ∧ AD Ad 8 77 w.heap.size w' (.slice ad (L1 ++ L2).length cap) (L1 ++ L2) ∧ Bw w w' := by
 obtain ⟨i0, hi, hz0, hz1, hz2⟩ := info_parts ES;have d1 : ¬ (L1.length : Int) < 0 := by omega
 have d2 : ¬ (L1.length : Int) + (L2.length : Int) < 0 := by omega
 have e1 : decide ((L1.length : Int) < 0) = false := decide_eq_false d1;have e2 : decide ((L1.length : Int) + (L2.length : Int) < 0) = false := decide_eq_false d2;have hql := World.block_lt_of_cell? w _ h1;have b1 := v1.lt Bt (by omega);have b2 := v2.lt Bt (by omega);go_enter func104, ntmps104
 go_wp2
 refine wp_loop_rounds 3 ?_;rw [rounds_succ];go_wp2_with fail
 rw [rounds_succ];go_wp2_with fail
 rw [rounds_succ];go_wp2_with fail
 go_at_call 133
 refine (LL _ w (by omega) (by omega)).mono ?_;rintro e y ⟨ad, cap, rfl, O, ky⟩;have h1 := (World.cell?_of_block (a := (ja q 0)) (ky.block q hql)).trans h1;have h2 := (World.cell?_of_block (a := (ja q 1)) (ky.block q hql)).trans h2;have v1 := v1.below ky b1;have v2 := v2.below ky b2;have hsz := ky.size;go_wp2
 refine wp_loop_rounds 3 ?_;rw [rounds_succ];go_wp2_with (first | (at_builtin; refine DX Bt Di rfl _ _ 32 rfl w.heap.size 77 i0 (.agg #[ji 0, ji 0, ji 0, ji 0, ji 0, ji 0, ji 0, .bool false]) 64 underlying32 hi hz0 hz1 hz2 rfl (by decide) (by decide) (.slice ad 0 cap) [] rfl O a1 c1 L1 rfl n1 v1 ?z0 ?z1 ?_) | go_in)
 case z0 => first | omega | (simp; omega)
 case z1 => exact hsz
 intro v' z O1 g1 _;replace O1 : AD Ad 8 77 w.heap.size z v' L1 := O1;obtain ⟨ad', cap', rfl⟩ := O1.open_;have ob : ∀ k, (Value.slice ad 0 cap).ownBlock = some k → w.heap.size ≤ k := fun k e => (O.lt k e).1
 have kz : Bw w z := ky.grown g1 hsz ob;have hq2 : z.heap[q]? = y.heap[q]? := g1.block q (by omega) (fun e => by have := ob q e.symm; omega);have h2 := (World.cell?_of_block (a := (ja q 1)) hq2).trans h2;have h1 := (World.cell?_of_block (a := (ja q 0)) hq2).trans h1;have v2 : AH Ad z a2 L2 := v2.carry (fun a e p => g1.block _ (by have := b2 a e p; omega) (fun e2 => by have h3 := ob _ e2.symm; have h4 := b2 a e p; omega));have hs2 := kz.size;clear g1 ob hq2 O ky;go_wp2_with fail
 rw [rounds_succ];go_wp2_with (first | (at_builtin; refine DX Bt Di rfl _ _ 32 rfl w.heap.size 77 i0 (.agg #[ji 0, ji 0, ji 0, ji 0, ji 0, ji 0, ji 0, .bool false]) 64 underlying32 hi hz0 hz1 hz2 rfl (by decide) (by decide) (.slice ad' L1.length cap') L1 rfl O1 a2 c2 L2 rfl n2 v2 ?y0 ?y1 ?_) | go_in)
 case y0 => first | omega | (simp; omega)
 case y1 => exact hs2
 intro v' x O2 g2 _;obtain ⟨ad2, cap2, rfl⟩ := O2.open_;have ob : ∀ k, (Value.slice ad' L1.length cap').ownBlock = some k → w.heap.size ≤ k := fun k e => (O1.lt k e).1
 have kx : Bw w x := kz.grown g2 hs2 ob;clear g2 ob O1 kz h1 h2 v1 v2;obtain ⟨M, hM⟩ : ∃ M, L1 ++ L2 = M := ⟨_, rfl⟩;rw [hM] at O2 ⊢;replace hM : Hid _ := hM;go_wp2_with fail
 rw [rounds_succ];go_wp2
 go_ret
 obtain rfl := hM.out;exact ⟨_, _, rfl, O2, kx⟩
def DO (base : Nat) (w : World) (a : Option Addr) (c : Nat) (L : List Ou) : Prop := (a = none ∧ c = 0 ∧ L = []) ∨ ∃ (g : Nat) (pre : List Ou) (cap : Nat), a = some ⟨g, pre.length * 8, none⟩ ∧ c + pre.length = cap ∧ AD Ad 8 77 base w (.slice (some (ja g 0)) (pre ++ L).length cap) (pre ++ L)
theorem DO.of {base : Nat} {w : World} {a : Option Addr} {c : Nat} {L : List Ou} (h : AD Ad 8 77 base w (.slice a L.length c) L) : DO base w a c L := by
 rcases h.2 with ⟨e, h0⟩ | ⟨g, c2, cur, e, _⟩
 ·
  simp only [Value.slice.injEq] at e;exact .inl ⟨e.1, e.2.2, List.eq_nil_of_length_eq_zero e.2.1⟩
 simp only [Value.slice.injEq] at e;obtain ⟨rfl, _, _⟩ := e;exact .inr ⟨g, [], c, rfl, rfl, h⟩
theorem DO.view {base : Nat} {w : World} {a : Option Addr} {c : Nat} {L : List Ou} (h : DO base w a c L) : AH Ad w a L := by
 rcases h with ⟨_, _, rfl⟩ | ⟨g, pre, cap, rfl, _, O⟩
 ·
  exact AH.nil
 have := O.view.2.dropO (k := pre.length) (by simp);rwa [List.drop_left] at this
theorem DO.nil0 {base : Nat} {w : World} {a : Option Addr} {c : Nat} {L : List Ou} (h : DO base w a c L) (e : a = none) : c = 0 := by
 rcases h with ⟨_, h, _⟩ | ⟨g, pre, cap, e2, _⟩
 ·
  exact h
 rw [e] at e2; cases e2
theorem DO.keep {base : Nat} {w w' : World} {a : Option Addr} {c : Nat} {L : List Ou} (h : DO base w a c L) (k : ∀ g, base ≤ g → g < w.heap.size → (∀ n, (Value.slice a n c).ownBlock = some g) → w'.heap[g]? = w.heap[g]?) : DO base w' a c L := by
 rcases h with h | ⟨g, pre, cap, rfl, hc, O⟩
 ·
  exact .inl h
 exact .inr ⟨g, pre, cap, rfl, hc, O.keep (fun g2 e => k g2 (O.lt g2 e).1 (O.lt g2 e).2 (fun n => e))⟩
theorem DO.base {b1 b2 : Nat} {w : World} {a : Option Addr} {c : Nat} {L : List Ou} (h : DO b1 w a c L) (hb : b2 ≤ b1) : DO b2 w a c L := by
 rcases h with h | ⟨g, pre, cap, e, hc, O⟩
 ·
  exact .inl h
 exact .inr ⟨g, pre, cap, e, hc, O.base hb⟩
theorem Kt (a1 a2 : Option Addr) (c1 c2 : Nat) (S L : List Ou) (w : World) (v1 : AH Ad w a1 S) (v2 : AH Ad w a2 L) (n1 : a1 = none → c1 = 0) (n2 : a2 = none → c2 = 0) (l1 : S.length ≤ 1048576) (l2 : L.length ≤ 1048576) :
  Calls prog 62 #[.slice a1 S.length c1, .slice a2 L.length c2] w fun e w' => ∃ a c, e = .returned (.slice a (Bv (S ++ L)).length c) ∧ DO w.heap.size w' a c (Bv (S ++ L)) ∧ Bw w w' := by
 obtain ⟨Q, hQ⟩ := AB (S ++ L);rw [← hQ];replace hQ : Hid _ := hQ;obtain ⟨y, hy, B0⟩ := AI w (Obj.cells #[.slice a1 S.length c1, .slice a2 L.length c2] 32);have h1 : y.cell? (ja w.heap.size 0) = some (.slice a1 S.length c1) := by rw [hy]; simp [go_sem]
 have h2 : y.cell? (ja w.heap.size 1) = some (.slice a2 L.length c2) := by rw [hy]; simp [go_sem]
 have v1 := v1.below B0 (v1.lt Bt (by omega));have v2 := v2.below B0 (v2.lt Bt (by omega));go_enter func62, ntmps62
 go_wp2_with fail
 go_at_call 104
 rw [← hy];clear hy;refine (Jr w.heap.size a1 a2 c1 c2 S L y h1 h2 v1 v2 n1 n2 l1 l2).mono ?_;rintro e z ⟨ad, cap, rfl, O, kq⟩;have B1 := AA B0 kq;have O := O.base B0.size;have bl : (S ++ L).length ≤ 2097152 := by rw [List.length_append]; omega
 rw [← hQ.out] at O bl ⊢;clear hQ kq h1 h2 v1 v2 B0;have hcap := O.capM;have hcm : cap ≤ maxLen := by
  rcases O.2 with ⟨e, _⟩ | ⟨g, c, cur, e, _, _, _, hm, _⟩
  ·
   simp only [Value.slice.injEq] at e; omega
  simp only [Value.slice.injEq] at e; omega
 by_cases h40 : Q.length ≤ 40
 ·
  have hw : IntKind.i64.wrap ((Q.length : Int) - 40) = (Q.length : Int) - 40 := by rw [IntKind.wrap_i64]; omega
  have hm : max (0 : Int) ((Q.length : Int) - 40) = 0 := by omega
  have hX : Bv Q = Q := Hd h40;cases ad with
  | none =>
   obtain rfl := O.view.2.none_nil;obtain rfl := Ef O;go_wp2
   go_ret
   exact ⟨none, 0, by rw [hX]; rfl, .inl ⟨rfl, rfl, hX⟩, B1⟩
  | some a =>
   obtain ⟨g, rfl⟩ : ∃ g, a = (ja g 0) := by
    rcases O.2 with ⟨e, _⟩ | ⟨g, c, cur, e, _⟩
    ·
     simp at e
    simp only [Value.slice.injEq, Option.some.injEq] at e; exact ⟨g, e.1⟩
   replace hX : Hid _ := hX;go_wp2
   go_ret
   exact ⟨_, cap, by rw [hX.out]; rfl, by rw [hX.out]; exact DO.of O, B1⟩
 obtain ⟨n, hn⟩ : ∃ n, Q.length = n + 40 := ⟨Q.length - 40, by omega⟩;have hw : IntKind.i64.wrap ((Q.length : Int) - 40) = (n : Int) := by rw [IntKind.wrap_i64]; omega
 have hm : max (0 : Int) (n : Int) = (n : Int) := by omega
 obtain ⟨g, rfl⟩ : ∃ g, ad = some (ja g 0) := by
  rcases O.2 with ⟨e, _⟩ | ⟨g, c, cur, e, _⟩
  ·
   simp only [Value.slice.injEq] at e; omega
  simp only [Value.slice.injEq] at e; exact ⟨g, e.1⟩
 have hX : Bv Q = Q.drop n := by unfold Bv; rw [show Q.length - 40 = n by omega]
 have hl : (Bv Q).length = 40 := by rw [hX, List.length_drop]; omega
 have hpre : (Q.take n).length = n := by rw [List.length_take]; omega
 have hS : DO w.heap.size z (some ⟨g, n * 8, none⟩) (cap - n) (Bv Q) := .inr ⟨g, Q.take n, cap, by rw [hpre], by rw [hpre]; omega, by rw [hX, List.take_append_drop]; exact O⟩;replace hX : Hid _ := hX;replace hl : Hid _ := hl;replace hS : Hid _ := hS;replace hpre : Hid _ := hpre;have hlt : n < cap := by omega
 have hq2 : n ≤ Q.length := by omega
 have hn2 : Q.length - n = 40 := by omega
 replace hn : Hid _ := hn;clear O;go_wp2
 go_ret
 exact ⟨_, _, by rw [hl.out]; rfl, hS.out, B1⟩
end Go.Proofs.YthgcbihhdbpbdaaGreat
namespace Go.Proofs.YthgcbihhdbpbdaaGreat
open Go.ChangeShapes Go.WideShapes Go.ChangeAt Go.RowKit
open Go.ChangeMaps (open_string shut_string)
set_option linter.unusedVariables false
set_option maxRecDepth 100000
set_option maxHeartbeats 32000000
set_option linter.unusedSimpArgs false
open Go.Proofs.Tryz
theorem Hz (x : AG) (w : World) (hJ : Ct w x) (hb : AX x.p = true) :
  Calls prog 68 #[.agg (bc x)] w fun e w' => YN e (Dm x.p) ∧ Bw w w' := by
 obtain ⟨Q, hQ⟩ : ∃ Q : Prop, Q = (Dm x.p) := ⟨_, rfl⟩;rw [← hQ];replace hQ : Hid _ := hQ;obtain ⟨y, hy, B⟩ := AI w (Obj.cells (bc x) 34);have A : AZ y w.heap.size x := by rw [hy]; exact AZ.new w _ x
 have J := hJ.later B;have hln : x.ln.length ≤ 60 := (DU hb).2.2.2.2.1;have hsd : x.sd.length ≤ 40 := (DU hb).2.2.2.2.2;have hBn := J.v.i.lt Aa (by omega);have hNl := FG x.id x.po;obtain ⟨I, hI⟩ : ∃ v, Bf x.id x.po = v := ⟨_, rfl⟩;obtain ⟨N, hN⟩ : ∃ v, Ap x.id x.po = v := ⟨_, rfl⟩;have hQ2 : Hid (Q ↔ Bv (Cu I N x.ln) = x.sd) := by unfold Hid; rw [hQ.out, ← hI, ← hN]; exact Iff.rfl
 rw [hN] at hNl;replace hI : Hid _ := hI;replace hN : Hid _ := hN;clear hQ hb;have hw0 := A.lt;go_enter func68, ntmps68
 go_upto_region 1 with fail
 rw [← hy];clear hy;obtain ⟨a0, a1, a2, a3, a4, a5, a6, a7, a8, a9⟩ := id A;go_wp2_with fail
 go_at_call 13
 clear a0 a1 a2 a3 a4 a5 a6 a7 a8 a9;refine (Gw x.id x.po y).mono ?_;rintro e u1 ⟨a1, c1, rfl, O1, k1⟩;rw [hN.out] at O1;rw [hI.out, hN.out];obtain ⟨nk, hnk⟩ : ∃ b, Ay x.id x.po = b := ⟨_, rfl⟩;rw [hnk];clear hI hN hnk;have A := A.below k1 A.lt;have B1 := AA B k1;have s1 := k1.size;have lo1 := O1.lt;clear k1 B J;obtain ⟨u2, hu2, k2⟩ := AI u1 (Obj.cells #[ji I, .slice a1 N.length c1] 42);have P := AP.new u1 42 I (.slice a1 N.length c1);rw [← hu2] at P;have B := AA B1 k2;have A := A.below k2 A.lt;have O1 := O1.later k2;have s2 := P.lt;go_upto_region 2 with fail
 rw [← hu2];clear hu2 k2 B1;obtain ⟨p, hp⟩ := AB u1.heap.size;rw [← hp] at P s1 s2 lo1 ⊢;clear hp;have lp : w.heap.size < p := by omega
 have J := hJ.later B;obtain ⟨a0, a1, a2, a3, a4, a5, a6, a7, a8, a9⟩ := id A;go_upto_region 4 with fail
 clear a0 a1 a2 a3 a4 a5 a6 a7 a8 a9 J;go_loopw [5, 6, 20] (fun v5 v6 i wr => ∃ (k : Nat) (a : Option Addr) (c : Nat) (L : List Pt) (a5 : Option Addr) (c5 : Nat) (S : List Ou), k ≤ x.ln.length ∧ i = .int .i64 (k : Int) ∧ v5 = .slice a5 S.length c5 ∧ Hid (CL I N (x.ln.take k) = L) ∧ Hid (Bv (Cu I N (x.ln.take k)) = S) ∧ AP wr p I (.slice a L.length c) ∧ AD AJ 11 70 w.heap.size wr (.slice a L.length c) L ∧ (∀ g, (Value.slice a L.length c).ownBlock = some g → g ≠ p) ∧ DO (p + 1) wr a5 c5 S ∧ AZ wr w.heap.size x ∧ Below w.heap.size w wr) (fun _ _ i _ => x.ln.length - (intOf i).toNat)
 case atStart => exact ⟨0, a1, c1, N, none, 0, [], Nat.zero_le _, rfl, rfl, rfl, rfl, P, O1.base (by omega), fun g e => by have := lo1 g e; omega, .inl ⟨rfl, rfl, rfl⟩, A, B⟩
 case round =>
  obtain ⟨k, a, c, L, a5, c5, S, hk, rfl, rfl, hL, hS, P, O, hne, SO, A, B⟩ := hrel;have hLl : L.length ≤ 4 := by rw [← hL.out, FS]; exact hNl
  have hSl : S.length ≤ 40 := by rw [← hS.out]; exact Ha _
  clear O1 lo1;have J := hJ.later B;by_cases hlt : k < x.ln.length
  ·
   have hst := Fp I N x.ln Ao hlt;have hso := GL I N x.ln Ao hlt;rw [hL.out] at hst hso;have hs2 : Bv (S ++ BT I L (x.ln.getD k Ao)) = Bv (Cu I N (x.ln.take (k + 1))) := by rw [hso, ← hS.out, I3]
   clear hso hL hS;obtain ⟨b, off, hat, _⟩ := J.v.i (by omega);obtain ⟨d, hh⟩ : ∃ d, x.ln.getD k Ao = d := ⟨_, rfl⟩;rw [hh] at hst hs2;have hck : Bl wr b (off + k * 8) d := by have h1 := J.v.i; rw [hat] at h1; rw [← hh]; exact DT (h1.at_ Aa Ao hlt)
   replace hst : Hid _ := hst;replace hs2 : Hid _ := hs2;clear hh;have lp2 := P.lt;have bs := B.size;have ln := O.lt;rw [hat];replace hck := hck.all;obtain ⟨u, hu, ku⟩ := AI wr (Obj.cells (ic d) 64);replace hat : Hid _ := hat;have U : A8 u wr.heap.size d := by rw [hu]; exact A8.new wr _ d
   have P := P.below ku P.lt;have A := A.below ku A.lt;have O := O.later ku;have SO := SO.keep (fun g _ hg _ => ku.block g hg);have B3 := AA B ku;have su := ku.size;go_upto_region 6 with fail
   rw [← hu];clear hck hu ku B J;obtain ⟨⟨p0, p1⟩, pf⟩ := id P;replace U := U.all;go_wp2_with fail
   go_at_call 110
   clear U p0 p1 pf;refine (IB I a c L d u O.view.2 (by omega) O.capn).mono ?_;rintro e w2 ⟨a2, c2, o2, d2, rfl, O2, Q2, _, k2⟩;have hOl := Ff I L d;obtain ⟨M, hM⟩ : ∃ M, Ba I L d = M := ⟨_, rfl⟩;obtain ⟨OO, hOO⟩ : ∃ M, BT I L d = M := ⟨_, rfl⟩;rw [hM] at O2 ⊢;rw [hOO] at Q2 hOl ⊢;have hst2 : Hid (CL I N (x.ln.take (k + 1)) = M) := by unfold Hid; rw [hst.out]; exact hM
   have hs3 : Hid (Bv (S ++ OO) = Bv (Cu I N (x.ln.take (k + 1)))) := by unfold Hid; rw [← hs2.out, hOO]
   clear hM hOO hst hs2;have P := P.below k2 P.lt;have A := A.below k2 A.lt;have B3 := AA B3 k2;have SO := SO.keep (fun g _ hg _ => k2.block g hg);have P9 := P.put I (.slice a2 M.length c2);have lo2 := O2.lt;have lq2 := Q2.lt;clear O hne ln k2;obtain ⟨w3, hw3⟩ := AB ((w2.setCell (ja p 0) (ji I)).setCell (ja p 1) (.slice a2 M.length c2));have kp : ∀ g, g ≠ p → w3.heap[g]? = w2.heap[g]? := fun g hg => by rw [hw3]; exact P.put1 I _ g hg
   have O9 : AD AJ 11 70 w.heap.size w3 (.slice a2 M.length c2) M := (O2.base (by omega)).keep (fun g e => kp g (by have := lo2 g e; omega));have Q9 : AD Ad 8 77 (p + 1) w3 (.slice o2 OO.length d2) OO := (Q2.base (by omega)).keep (fun g e => kp g (by have := lq2 g e; omega));have S9 : DO (p + 1) w3 a5 c5 S := SO.keep (fun g hg _ _ => kp g (by omega));have A9 := A.keep (kp w.heap.size (by omega));have B9 : Bw w w3 := by rw [hw3]; exact (B3.setCell (p := (ja p 0)) (by show _ ≤ p; omega) _).setCell (p := (ja p 1)) (by show _ ≤ p; omega) _
   have hne9 : ∀ g, (Value.slice a2 M.length c2).ownBlock = some g → g ≠ p := fun g e => by have := lo2 g e; omega
   rw [← hw3] at P9;clear O2 Q2 SO A B3 lo2 lq2;obtain ⟨⟨p0, p1⟩, pf⟩ := P;have g0 := pf 0;have g1 := pf 1;clear pf;go_upto_region 7 with fail
   rw [← hw3];clear hw3 kp p0 p1 g0 g1;go_wp2_with fail
   go_at_call 62
   refine (Kt a5 o2 c5 d2 S OO w3 S9.view Q9.view.2 (fun e => S9.nil0 e) Q9.capn (by omega) (by omega)).mono ?_;rintro e w4 ⟨a6, c6, rfl, S6, k4⟩;have sz3 := P9.lt;have hs4 : Hid (Bv (Cu I N (x.ln.take (k + 1))) = Bv (S ++ OO)) := hs3.out.symm;obtain ⟨T, hT⟩ := AB (Bv (S ++ OO));rw [← hT] at S6 hs4 ⊢;clear hT hs3 Q9 S9;have P9 := P9.below k4 P9.lt;have A9 := A9.below k4 A9.lt;have O9 := O9.later k4;have B9 := AA B9 k4;have S6 := S6.base (b2 := p + 1) (by omega);clear k4;go_wp2
   go_roundw
   case rel => exact ⟨k + 1, a2, c2, M, a6, c6, T, by omega, by go_num, rfl, hst2, hs4, P9, O9, hne9, S6, A9, B9⟩
   case measure => simp [intOf]; omega
  obtain rfl : k = x.ln.length := by omega
  rw [List.take_length] at hS;obtain ⟨a0, a1, a2, a3, a4, a5, a6, a7, a8, a9⟩ := id A;go_wp2_with fail
  go_at_call 111
  clear a0 a1 a2 a3 a4 a5 a6 a7 a8 a9;refine (Ku x.aS a5 x.cS c5 x.sd S wr J.v.s SO.view (by omega) (by omega)).mono ?_;rintro e u9 ⟨⟨rb, rfl, hrb⟩, kq⟩;have B := AA B kq;replace hrb : Hid _ := hrb;clear kq SO P O A J;go_wp2
  go_ret
  exact ⟨YN.is (by rw [hQ2.out, hS.out]; exact hrb.out.trans eq_comm), B⟩
attribute [local go_sem] ji ja bc
theorem LC (x : AG) (w : World) (hJ : Ct w x) :
  Calls prog 23 #[.agg (bc x)] w fun e w' => YN e (AX x.p = true ∧ Dh x.p ∧ Dm x.p ∧ Da x.p ∧ DN x.p) ∧ Bw w w' := by
 obtain ⟨Q, hQ⟩ : ∃ Q : Prop, Q = (AX x.p = true ∧ Dh x.p ∧ Dm x.p ∧ Da x.p ∧ DN x.p) := ⟨_, rfl⟩;rw [← hQ];have hQ2 : Hid ((AX x.p = true ∧ ∀ k, k < 4 → ([Dh x.p, Dm x.p, Da x.p, DN x.p] : List Prop).getD k True) ↔ Q) := by
  unfold Hid;rw [hQ];constructor
  ·
   rintro ⟨h0, h⟩;exact ⟨h0, h 0 (by decide), h 1 (by decide), h 2 (by decide), h 3 (by decide)⟩
  rintro ⟨h0, q0, q1, q2, q3⟩;refine ⟨h0, fun k hk => ?_⟩;rcases (by omega : k = 0 ∨ k = 1 ∨ k = 2 ∨ k = 3) with rfl | rfl | rfl | rfl
  ·
   exact q0
  ·
   exact q1
  ·
   exact q2
  exact q3
 clear hQ;obtain ⟨y, hy, B⟩ := AI w (Obj.cells (bc x) 34);have A : AZ y w.heap.size x := by rw [hy]; exact AZ.new w _ x
 have J := hJ.later B;go_enter func23, ntmps23
 go_upto_region 1 with fail
 rw [← hy];clear hy;have a0 := A.all;go_wp2_with fail
 go_at_call 66
 clear a0;obtain ⟨y2, hy2⟩ := AB (y.alloc (Obj.cells #[.func (.func 67) #[] #[], .func (.func 68) #[] #[], .func (.func 69) #[] #[], .func (.func 70) #[] #[]] 123));have V2 : AH Dp y2 (some (ja y.heap.size 0)) [67, 68, 69, 70] := by
  rw [hy2];intro _;refine ⟨y.heap.size, 0, rfl, fun j v hv => ?_⟩;simp only [Ac, Dp, List.append_nil, List.cons_append, List.nil_append] at hv;have hj : j < 4 := (List.getElem?_eq_some_iff.1 hv).1;rcases (by omega : j = 0 ∨ j = 1 ∨ j = 2 ∨ j = 3) with rfl | rfl | rfl | rfl <;> (cases hv; simp [go_sem])
 have kq : Bw y y2 := by rw [hy2]; exact Al _
 rw [← hy2];have J := J.later kq;have B := AA B kq;clear hy2 kq A;refine (FX x [67, 68, 69, 70] (fun k => ([Dh x.p, Dm x.p, Da x.p, DN x.p] : List Prop).getD k True) (some (ja y.heap.size 0)) 4 y2 J V2 (by decide) (fun k hk => ?_) (fun h0 k hk w' hj => ?_)).mono ?_
 ·
  have hk : k < 4 := hk;rcases (by omega : k = 0 ∨ k = 1 ∨ k = 2 ∨ k = 3) with rfl | rfl | rfl | rfl
  ·
   exact enters_of func67 (by kernel_rfl) rfl
  ·
   exact enters_of func68 (by kernel_rfl) rfl
  ·
   exact enters_of func69 (by kernel_rfl) rfl
  exact enters_of func70 (by kernel_rfl) rfl
 ·
  have hk : k < 4 := hk;rcases (by omega : k = 0 ∨ k = 1 ∨ k = 2 ∨ k = 3) with rfl | rfl | rfl | rfl
  ·
   exact Hs x w' hj h0
  ·
   exact Hz x w' hj h0
  ·
   exact IL x w' hj h0
  exact IQ x w' hj h0
 rintro e u9 ⟨⟨rb, rfl, hrb⟩, kq⟩;have B := AA B kq;have hrb : Hid (rb = true ↔ Q) := by unfold Hid; rw [← hQ2.out]; exact hrb
 clear kq J V2;go_wp2
 go_ret
 exact ⟨YN.is hrb.out, B⟩
theorem Jk (x : AG) (w : World) (hJ : Ct w x) :
  Calls prog 25 #[.agg (bc x)] w fun e w' => YN e (AX x.p = true ∧ DG x.p) ∧ Bw w w' := by
 obtain ⟨Q, hQ⟩ : ∃ Q : Prop, Q = (AX x.p = true ∧ DG x.p) := ⟨_, rfl⟩;rw [← hQ];have hQ2 : Hid ((AX x.p = true ∧ ∀ k, k < 1 → ([DG x.p] : List Prop).getD k True) ↔ Q) := by
  unfold Hid;rw [hQ];constructor
  ·
   rintro ⟨h0, h⟩;exact ⟨h0, h 0 (by decide)⟩
  rintro ⟨h0, q0⟩;refine ⟨h0, fun k hk => ?_⟩;rcases (by omega : k = 0) with rfl
  ·
   exact q0
 clear hQ;obtain ⟨y, hy, B⟩ := AI w (Obj.cells (bc x) 34);have A : AZ y w.heap.size x := by rw [hy]; exact AZ.new w _ x
 have J := hJ.later B;go_enter func25, ntmps25
 go_upto_region 1 with fail
 rw [← hy];clear hy;have a0 := A.all;go_wp2_with fail
 go_at_call 66
 clear a0;obtain ⟨y2, hy2⟩ := AB (y.alloc (Obj.cells #[.func (.func 74) #[] #[]] 123));have V2 : AH Dp y2 (some (ja y.heap.size 0)) [74] := by
  rw [hy2];intro _;refine ⟨y.heap.size, 0, rfl, fun j v hv => ?_⟩;simp only [Ac, Dp, List.append_nil, List.cons_append, List.nil_append] at hv;have hj : j < 1 := (List.getElem?_eq_some_iff.1 hv).1;rcases (by omega : j = 0) with rfl <;> (cases hv; simp [go_sem])
 have kq : Bw y y2 := by rw [hy2]; exact Al _
 rw [← hy2];have J := J.later kq;have B := AA B kq;clear hy2 kq A;refine (FX x [74] (fun k => ([DG x.p] : List Prop).getD k True) (some (ja y.heap.size 0)) 1 y2 J V2 (by decide) (fun k hk => ?_) (fun h0 k hk w' hj => ?_)).mono ?_
 ·
  have hk : k < 1 := hk;rcases (by omega : k = 0) with rfl
  ·
   exact enters_of func74 (by kernel_rfl) rfl
 ·
  have hk : k < 1 := hk;rcases (by omega : k = 0) with rfl
  ·
   exact H2 x w' hj h0
 rintro e u9 ⟨⟨rb, rfl, hrb⟩, kq⟩;have B := AA B kq;have hrb : Hid (rb = true ↔ Q) := by unfold Hid; rw [← hQ2.out]; exact hrb
 clear kq J V2;go_wp2
 go_ret
 exact ⟨YN.is hrb.out, B⟩
theorem Jj (x : AG) (w : World) (hJ : Ct w x) :
  Calls prog 27 #[.agg (bc x)] w fun e w' => YN e (AX x.p = true ∧ Dh x.p) ∧ Bw w w' := by
 obtain ⟨Q, hQ⟩ : ∃ Q : Prop, Q = (AX x.p = true ∧ Dh x.p) := ⟨_, rfl⟩;rw [← hQ];have hQ2 : Hid ((AX x.p = true ∧ ∀ k, k < 1 → ([Dh x.p] : List Prop).getD k True) ↔ Q) := by
  unfold Hid;rw [hQ];constructor
  ·
   rintro ⟨h0, h⟩;exact ⟨h0, h 0 (by decide)⟩
  rintro ⟨h0, q0⟩;refine ⟨h0, fun k hk => ?_⟩;rcases (by omega : k = 0) with rfl
  ·
   exact q0
 clear hQ;obtain ⟨y, hy, B⟩ := AI w (Obj.cells (bc x) 34);have A : AZ y w.heap.size x := by rw [hy]; exact AZ.new w _ x
 have J := hJ.later B;go_enter func27, ntmps27
 go_upto_region 1 with fail
 rw [← hy];clear hy;have a0 := A.all;go_wp2_with fail
 go_at_call 66
 clear a0;obtain ⟨y2, hy2⟩ := AB (y.alloc (Obj.cells #[.func (.func 67) #[] #[]] 123));have V2 : AH Dp y2 (some (ja y.heap.size 0)) [67] := by
  rw [hy2];intro _;refine ⟨y.heap.size, 0, rfl, fun j v hv => ?_⟩;simp only [Ac, Dp, List.append_nil, List.cons_append, List.nil_append] at hv;have hj : j < 1 := (List.getElem?_eq_some_iff.1 hv).1;rcases (by omega : j = 0) with rfl <;> (cases hv; simp [go_sem])
 have kq : Bw y y2 := by rw [hy2]; exact Al _
 rw [← hy2];have J := J.later kq;have B := AA B kq;clear hy2 kq A;refine (FX x [67] (fun k => ([Dh x.p] : List Prop).getD k True) (some (ja y.heap.size 0)) 1 y2 J V2 (by decide) (fun k hk => ?_) (fun h0 k hk w' hj => ?_)).mono ?_
 ·
  have hk : k < 1 := hk;rcases (by omega : k = 0) with rfl
  ·
   exact enters_of func67 (by kernel_rfl) rfl
 ·
  have hk : k < 1 := hk;rcases (by omega : k = 0) with rfl
  ·
   exact Hs x w' hj h0
 rintro e u9 ⟨⟨rb, rfl, hrb⟩, kq⟩;have B := AA B kq;have hrb : Hid (rb = true ↔ Q) := by unfold Hid; rw [← hQ2.out]; exact hrb
 clear kq J V2;go_wp2
 go_ret
 exact ⟨YN.is hrb.out, B⟩
theorem KF (x : AG) (w : World) (hJ : Ct w x) :
  Calls prog 28 #[.agg (bc x)] w fun e w' => YN e (AX x.p = true ∧ Dm x.p) ∧ Bw w w' := by
 obtain ⟨Q, hQ⟩ : ∃ Q : Prop, Q = (AX x.p = true ∧ Dm x.p) := ⟨_, rfl⟩;rw [← hQ];have hQ2 : Hid ((AX x.p = true ∧ ∀ k, k < 1 → ([Dm x.p] : List Prop).getD k True) ↔ Q) := by
  unfold Hid;rw [hQ];constructor
  ·
   rintro ⟨h0, h⟩;exact ⟨h0, h 0 (by decide)⟩
  rintro ⟨h0, q0⟩;refine ⟨h0, fun k hk => ?_⟩;rcases (by omega : k = 0) with rfl
  ·
   exact q0
 clear hQ;obtain ⟨y, hy, B⟩ := AI w (Obj.cells (bc x) 34);have A : AZ y w.heap.size x := by rw [hy]; exact AZ.new w _ x
 have J := hJ.later B;go_enter func28, ntmps28
 go_upto_region 1 with fail
 rw [← hy];clear hy;have a0 := A.all;go_wp2_with fail
 go_at_call 66
 clear a0;obtain ⟨y2, hy2⟩ := AB (y.alloc (Obj.cells #[.func (.func 68) #[] #[]] 123));have V2 : AH Dp y2 (some (ja y.heap.size 0)) [68] := by
  rw [hy2];intro _;refine ⟨y.heap.size, 0, rfl, fun j v hv => ?_⟩;simp only [Ac, Dp, List.append_nil, List.cons_append, List.nil_append] at hv;have hj : j < 1 := (List.getElem?_eq_some_iff.1 hv).1;rcases (by omega : j = 0) with rfl <;> (cases hv; simp [go_sem])
 have kq : Bw y y2 := by rw [hy2]; exact Al _
 rw [← hy2];have J := J.later kq;have B := AA B kq;clear hy2 kq A;refine (FX x [68] (fun k => ([Dm x.p] : List Prop).getD k True) (some (ja y.heap.size 0)) 1 y2 J V2 (by decide) (fun k hk => ?_) (fun h0 k hk w' hj => ?_)).mono ?_
 ·
  have hk : k < 1 := hk;rcases (by omega : k = 0) with rfl
  ·
   exact enters_of func68 (by kernel_rfl) rfl
 ·
  have hk : k < 1 := hk;rcases (by omega : k = 0) with rfl
  ·
   exact Hz x w' hj h0
 rintro e u9 ⟨⟨rb, rfl, hrb⟩, kq⟩;have B := AA B kq;have hrb : Hid (rb = true ↔ Q) := by unfold Hid; rw [← hQ2.out]; exact hrb
 clear kq J V2;go_wp2
 go_ret
 exact ⟨YN.is hrb.out, B⟩
theorem KH (x : AG) (w : World) (hJ : Ct w x) :
  Calls prog 29 #[.agg (bc x)] w fun e w' => YN e (AX x.p = true ∧ Da x.p ∧ DN x.p) ∧ Bw w w' := by
 obtain ⟨Q, hQ⟩ : ∃ Q : Prop, Q = (AX x.p = true ∧ Da x.p ∧ DN x.p) := ⟨_, rfl⟩;rw [← hQ];have hQ2 : Hid ((AX x.p = true ∧ ∀ k, k < 2 → ([Da x.p, DN x.p] : List Prop).getD k True) ↔ Q) := by
  unfold Hid;rw [hQ];constructor
  ·
   rintro ⟨h0, h⟩;exact ⟨h0, h 0 (by decide), h 1 (by decide)⟩
  rintro ⟨h0, q0, q1⟩;refine ⟨h0, fun k hk => ?_⟩;rcases (by omega : k = 0 ∨ k = 1) with rfl | rfl
  ·
   exact q0
  exact q1
 clear hQ;obtain ⟨y, hy, B⟩ := AI w (Obj.cells (bc x) 34);have A : AZ y w.heap.size x := by rw [hy]; exact AZ.new w _ x
 have J := hJ.later B;go_enter func29, ntmps29
 go_upto_region 1 with fail
 rw [← hy];clear hy;have a0 := A.all;go_wp2_with fail
 go_at_call 66
 clear a0;obtain ⟨y2, hy2⟩ := AB (y.alloc (Obj.cells #[.func (.func 69) #[] #[], .func (.func 70) #[] #[]] 123));have V2 : AH Dp y2 (some (ja y.heap.size 0)) [69, 70] := by
  rw [hy2];intro _;refine ⟨y.heap.size, 0, rfl, fun j v hv => ?_⟩;simp only [Ac, Dp, List.append_nil, List.cons_append, List.nil_append] at hv;have hj : j < 2 := (List.getElem?_eq_some_iff.1 hv).1;rcases (by omega : j = 0 ∨ j = 1) with rfl | rfl <;> (cases hv; simp [go_sem])
 have kq : Bw y y2 := by rw [hy2]; exact Al _
 rw [← hy2];have J := J.later kq;have B := AA B kq;clear hy2 kq A;refine (FX x [69, 70] (fun k => ([Da x.p, DN x.p] : List Prop).getD k True) (some (ja y.heap.size 0)) 2 y2 J V2 (by decide) (fun k hk => ?_) (fun h0 k hk w' hj => ?_)).mono ?_
 ·
  have hk : k < 2 := hk;rcases (by omega : k = 0 ∨ k = 1) with rfl | rfl
  ·
   exact enters_of func69 (by kernel_rfl) rfl
  exact enters_of func70 (by kernel_rfl) rfl
 ·
  have hk : k < 2 := hk;rcases (by omega : k = 0 ∨ k = 1) with rfl | rfl
  ·
   exact IL x w' hj h0
  exact IQ x w' hj h0
 rintro e u9 ⟨⟨rb, rfl, hrb⟩, kq⟩;have B := AA B kq;have hrb : Hid (rb = true ↔ Q) := by unfold Hid; rw [← hQ2.out]; exact hrb
 clear kq J V2;go_wp2
 go_ret
 exact ⟨YN.is hrb.out, B⟩
end Go.Proofs.YthgcbihhdbpbdaaGreat
