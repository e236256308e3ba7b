import Derived.Test.YtnpiljegdiconaaGreatQKWBr5s
import Derived.Test.YtnpiljegdiconaaGreatQM8
namespace Go.Proofs.YtnpiljegdiconaaGreat
open Go.ChangeShapes Go.WideShapes Go.ChangeAt Go.RowKit
open Go.ChangeMaps (open_string shut_string)
set_option linter.unusedVariables false
set_option maxRecDepth 100000
structure Ik where
 k : Int
 q : Int
 r : Int
 c : Int
 b : Int
 p : Int
 h : Int
 up : Bool
structure InAt (w : World) (o : Nat) (x : Ik) : Prop where
 c0 : w.cell? ⟨o, 0, none⟩ = some (.int .i64 x.k)
 c1 : w.cell? ⟨o, 1, none⟩ = some (.int .i64 x.q)
 c2 : w.cell? ⟨o, 2, none⟩ = some (.int .i64 x.r)
 c3 : w.cell? ⟨o, 3, none⟩ = some (.int .i64 x.c)
 c4 : w.cell? ⟨o, 4, none⟩ = some (.int .i64 x.b)
 c5 : w.cell? ⟨o, 5, none⟩ = some (.int .i64 x.p)
 c6 : w.cell? ⟨o, 6, none⟩ = some (.int .i64 x.h)
 c7 : w.cell? ⟨o, 7, none⟩ = some (.bool x.up)
theorem InAt.keep {w w' : World} {o : Nat} {x : Ik} (h : InAt w o x) (k : w'.heap[o]? = w.heap[o]?) : InAt w' o x :=
 ⟨(World.cell?_of_block (a := ⟨o, 0, none⟩) k).trans h.c0, (World.cell?_of_block (a := ⟨o, 1, none⟩) k).trans h.c1, (World.cell?_of_block (a := ⟨o, 2, none⟩) k).trans h.c2, (World.cell?_of_block (a := ⟨o, 3, none⟩) k).trans h.c3, (World.cell?_of_block (a := ⟨o, 4, none⟩) k).trans h.c4, (World.cell?_of_block (a := ⟨o, 5, none⟩) k).trans h.c5, (World.cell?_of_block (a := ⟨o, 6, none⟩) k).trans h.c6, (World.cell?_of_block (a := ⟨o, 7, none⟩) k).trans h.c7⟩
theorem InAt.below {w w' : World} {o n : Nat} {x : Ik} (h : InAt w o x) (k : Below n w w') (ho : o < n) : InAt w' o x := h.keep (k.block o ho)
theorem InAt.lt {w : World} {o : Nat} {x : Ik} (h : InAt w o x) : o < w.heap.size := World.block_lt_of_cell? w _ h.c0
theorem InAt.new (w : World) (t : TypeId) (x : Ik) : InAt (w.alloc (Obj.cells #[.int .i64 x.k, .int .i64 x.q, .int .i64 x.r, .int .i64 x.c, .int .i64 x.b, .int .i64 x.p, .int .i64 x.h, .bool x.up] t)) w.heap.size x := by
 constructor <;> simp [go_sem]
def inOk (x : Ik) : Bool :=
 if x.k = 1 then decide (0 ≤ x.q ∧ x.q ≤ 3) && (vOk x.r x.c x.b x.p && (decide (0 ≤ x.h ∧ x.h ≤ 8) && !x.up))
 else if x.k = 3 then decide (0 ≤ x.q ∧ x.q ≤ 3) && (decide (x.r = 0 ∧ x.c = 0 ∧ x.b = 0 ∧ x.p = 0) && (x.h == 0))
 else if x.k = 2 then decide (x.q = 0 ∧ x.r = 0 ∧ x.c = 0 ∧ x.b = 0 ∧ x.p = 0 ∧ x.h = 0 ∧ x.up = false)
 else false
def arrV (x : Ik) : Value :=
 if x.k = 1 then .iface 252 (.agg #[.int .i64 x.q, .int .i64 x.r, .int .i64 x.c, .int .i64 x.b, .int .i64 x.p, .int .i64 x.h])
 else if x.k = 2 then .iface 253 (.agg #[])
 else if x.k = 3 then .iface 255 (.agg #[.int .i64 x.q, .bool x.up])
 else .nilIface
set_option maxHeartbeats 1000000 in
theorem arrI (x : Ik) (w : World) : Calls Tryz.prog 189 #[.agg #[.int .i64 x.k, .int .i64 x.q, .int .i64 x.r, .int .i64 x.c, .int .i64 x.b, .int .i64 x.p, .int .i64 x.h, .bool x.up]] w fun e w' => e = .returned (arrV x) ∧ Below w.heap.size w w' := by
 obtain ⟨k, q, r, c, b, p, h, up⟩ := x;dsimp only
 have B0 := below_new (w := w) (Obj.cells #[.int .i64 k, .int .i64 q, .int .i64 r, .int .i64 c, .int .i64 b, .int .i64 p, .int .i64 h, .bool up] 105);by_cases h1 : k = 1
 ·
  subst h1;rw [show arrV ⟨1, q, r, c, b, p, h, up⟩ = .iface 252 (.agg #[.int .i64 q, .int .i64 r, .int .i64 c, .int .i64 b, .int .i64 p, .int .i64 h]) from rfl];go_enter Tryz.func189, Tryz.ntmps189
  go_wp2
  go_ret
  exact ⟨rfl, B0⟩
 have d1 : (k == 1) = false := by simpa using h1
 by_cases h2 : k = 2
 ·
  subst h2;rw [show arrV ⟨2, q, r, c, b, p, h, up⟩ = .iface 253 (.agg #[]) from rfl];go_enter Tryz.func189, Tryz.ntmps189
  go_wp2
  go_ret
  exact ⟨rfl, B0⟩
 have d2 : (k == 2) = false := by simpa using h2
 by_cases h3 : k = 3
 ·
  subst h3;rw [show arrV ⟨3, q, r, c, b, p, h, up⟩ = .iface 255 (.agg #[.int .i64 q, .bool up]) from rfl];go_enter Tryz.func189, Tryz.ntmps189
  go_wp2
  go_ret
  exact ⟨rfl, B0⟩
 have d3 : (k == 3) = false := by simpa using h3
 have e : arrV ⟨k, q, r, c, b, p, h, up⟩ = .nilIface := by unfold arrV; rw [if_neg h1, if_neg h2, if_neg h3]
 rw [e];go_enter Tryz.func189, Tryz.ntmps189
 go_wp2
 go_ret
 exact ⟨rfl, B0⟩
theorem canBeI (q : Int) (w : World) : Calls Tryz.prog 273 #[.int .i64 q] w fun e w' => e = .returned (.bool (decide (0 ≤ q ∧ q ≤ 3))) ∧ w' = w := by
 by_cases h1 : 0 ≤ q
 ·
  have d1 : decide (0 ≤ q) = true := decide_eq_true h1;by_cases h2 : q < 4
  ·
   have d2 : decide (q < 4) = true := decide_eq_true h2;rw [decide_eq_true (show 0 ≤ q ∧ q ≤ 3 by omega)];clear h1 h2;go_enter Tryz.func273, Tryz.ntmps273
   go_wp2
   go_ret
   exact ⟨rfl, rfl⟩
  have d2 : decide (q < 4) = false := decide_eq_false h2;rw [decide_eq_false (show ¬ (0 ≤ q ∧ q ≤ 3) by omega)];clear h1 h2;go_enter Tryz.func273, Tryz.ntmps273
  go_wp2
  go_ret
  exact ⟨rfl, rfl⟩
 have d1 : decide (0 ≤ q) = false := decide_eq_false h1;rw [decide_eq_false (show ¬ (0 ≤ q ∧ q ≤ 3) by omega)];clear h1;go_enter Tryz.func273, Tryz.ntmps273
 go_wp2
 go_ret
 exact ⟨rfl, rfl⟩
theorem ccFits (q r c b p h : Int) (w : World) : Calls Tryz.prog 271 #[.agg #[.int .i64 q, .int .i64 r, .int .i64 c, .int .i64 b, .int .i64 p, .int .i64 h]] w fun e w' => e = .returned (.bool (decide (0 ≤ q ∧ q ≤ 3) && (vOk r c b p && decide (0 ≤ h ∧ h ≤ 8)))) ∧ Below w.heap.size w w' := by
 obtain ⟨y, hy⟩ : ∃ y, y = w.alloc (Obj.cells #[.int .i64 q, .int .i64 r, .int .i64 c, .int .i64 b, .int .i64 p, .int .i64 h] 252) := ⟨_, rfl⟩;have B0 : Below w.heap.size w y := by rw [hy]; exact below_new _
 have C0 : ∀ i v, (#[.int .i64 q, .int .i64 r, .int .i64 c, .int .i64 b, .int .i64 p, .int .i64 h] : Array Value)[i]? = some v → y.cell? ⟨w.heap.size, i, none⟩ = some v := by
  intro i v h;rw [hy];have hi : i < 6 := (Array.getElem?_eq_some_iff.1 h).1;rcases (by omega : i = 0 ∨ i = 1 ∨ i = 2 ∨ i = 3 ∨ i = 4 ∨ i = 5) with rfl | rfl | rfl | rfl | rfl | rfl <;> (cases h; simp [go_sem])
 have S0 : w.heap.size < y.heap.size := by rw [hy]; simp
 obtain ⟨R, hR⟩ : ∃ R, R = (decide (0 ≤ q ∧ q ≤ 3) && (vOk r c b p && decide (0 ≤ h ∧ h ≤ 8))) := ⟨_, rfl⟩;rw [← hR];go_enter Tryz.func271, Tryz.ntmps271
 go_wp2_with fail
 go_at_call 273
 rw [← hy];clear hy;refine (canBeI q y).mono ?_;rintro e y1 ⟨rfl, rfl⟩;cases h1 : decide (0 ≤ q ∧ q ≤ 3) with
 | false =>
  have hN : Hid (R = false) := by unfold Hid; rw [hR, h1]; rfl
  clear hR h1;go_wp2
  go_ret
  exact ⟨by rw [hN.out]; rfl, B0⟩
 | true =>
  have hR2 : Hid (R = (vOk r c b p && decide (0 ≤ h ∧ h ≤ 8))) := by unfold Hid; rw [hR, h1]; rfl
  clear hR h1;have c1 := C0 1 _ rfl;have c2 := C0 2 _ rfl;have c3 := C0 3 _ rfl;have c4 := C0 4 _ rfl;go_wp2_with fail
  go_at_call 238
  refine (vOkI r c b p y1).mono ?_;rintro e y2 ⟨rfl, k2⟩;have B2 := B0.trans (k2.mono B0.size);have c5 : y2.cell? ⟨w.heap.size, 5, none⟩ = some (.int .i64 h) := (World.cell?_of_block (a := ⟨w.heap.size, 5, none⟩) (k2.block _ S0)).trans (C0 5 _ rfl);clear c1 c2 c3 c4 C0 k2;cases h2 : vOk r c b p with
  | false =>
   have hN : Hid (R = false) := by unfold Hid; rw [hR2.out, h2]; rfl
   clear hR2 h2;go_wp2
   go_ret
   exact ⟨by rw [hN.out]; rfl, B2⟩
  | true =>
   have hR3 : Hid (decide (0 ≤ h ∧ h ≤ 8) = R) := by unfold Hid; rw [hR2.out, h2]; rfl
   clear hR2 h2;go_wp2_with fail
   go_at_call 239
   refine (hopsFitI h y2).mono ?_;rintro e y3 ⟨rfl, rfl⟩;rw [hR3.out];go_wp2
   go_ret
   exact ⟨rfl, B2⟩
theorem ccRec (q r c b p h : Int) (w : World) : Calls Tryz.prog 272 #[.agg #[.int .i64 q, .int .i64 r, .int .i64 c, .int .i64 b, .int .i64 p, .int .i64 h]] w fun e w' => e = .returned (.agg #[.int .i64 1, .int .i64 q, .int .i64 r, .int .i64 c, .int .i64 b, .int .i64 p, .int .i64 h, .bool false]) ∧ Below w.heap.size w w' := by
 have B0 := ((Below.refl w.heap.size w).alloc (Nat.le_refl _) (Obj.cells #[.int .i64 q, .int .i64 r, .int .i64 c, .int .i64 b, .int .i64 p, .int .i64 h] 252)).alloc (by simp) (Obj.cells #[.int .i64 1, .int .i64 q, .int .i64 r, .int .i64 c, .int .i64 b, .int .i64 p, .int .i64 h, .bool false] 105);go_enter Tryz.func272, Tryz.ntmps272
 go_wp2
 refine bodyPost_ret (v := .agg #[.int .i64 1, .int .i64 q, .int .i64 r, .int .i64 c, .int .i64 b, .int .i64 p, .int .i64 h, .bool false]) (by simp [results, Tryz.results272, go_sem, *]) rfl ⟨rfl, B0⟩
theorem tcFits (w : World) : Calls Tryz.prog 274 #[.agg #[]] w fun e w' => e = .returned (.bool true) ∧ Below w.heap.size w w' := by
 go_enter Tryz.func274, Tryz.ntmps274
 go_wp2
 go_ret
 exact ⟨rfl, below_new _⟩
theorem tcRec (w : World) : Calls Tryz.prog 275 #[.agg #[]] w fun e w' => e = .returned (.agg #[.int .i64 2, .int .i64 0, .int .i64 0, .int .i64 0, .int .i64 0, .int .i64 0, .int .i64 0, .bool false]) ∧ Below w.heap.size w w' := by
 have B0 := ((Below.refl w.heap.size w).alloc (Nat.le_refl _) (Obj.cells #[] 253)).alloc (by simp) (Obj.cells #[.int .i64 2, .int .i64 0, .int .i64 0, .int .i64 0, .int .i64 0, .int .i64 0, .int .i64 0, .bool false] 105);go_enter Tryz.func275, Tryz.ntmps275
 go_wp2
 refine bodyPost_ret (v := .agg #[.int .i64 2, .int .i64 0, .int .i64 0, .int .i64 0, .int .i64 0, .int .i64 0, .int .i64 0, .bool false]) (by simp [results, Tryz.results275, go_sem, *]) rfl ⟨rfl, B0⟩
theorem lcFits (q : Int) (up : Bool) (w : World) : Calls Tryz.prog 276 #[.agg #[.int .i64 q, .bool up]] w fun e w' => e = .returned (.bool (decide (0 ≤ q ∧ q ≤ 3))) ∧ Below w.heap.size w w' := by
 have B0 := below_new (w := w) (Obj.cells #[.int .i64 q, .bool up] 255);obtain ⟨R, hR⟩ : ∃ R, decide (0 ≤ q ∧ q ≤ 3) = R := ⟨_, rfl⟩;rw [hR];replace hR : Hid _ := hR;go_enter Tryz.func276, Tryz.ntmps276
 go_wp2_with fail
 go_at_call 273
 refine (canBeI q _).mono ?_;rintro e y1 ⟨rfl, rfl⟩;rw [hR.out];go_wp2
 go_ret
 exact ⟨rfl, B0⟩
theorem lcRec (q : Int) (up : Bool) (w : World) : Calls Tryz.prog 277 #[.agg #[.int .i64 q, .bool up]] w fun e w' => e = .returned (.agg #[.int .i64 3, .int .i64 q, .int .i64 0, .int .i64 0, .int .i64 0, .int .i64 0, .int .i64 0, .bool up]) ∧ Below w.heap.size w w' := by
 have B0 := ((Below.refl w.heap.size w).alloc (Nat.le_refl _) (Obj.cells #[.int .i64 q, .bool up] 255)).alloc (by simp) (Obj.cells #[.int .i64 3, .int .i64 q, .int .i64 0, .int .i64 0, .int .i64 0, .int .i64 0, .int .i64 0, .bool up] 105);go_enter Tryz.func277, Tryz.ntmps277
 go_wp2
 refine bodyPost_ret (v := .agg #[.int .i64 3, .int .i64 q, .int .i64 0, .int .i64 0, .int .i64 0, .int .i64 0, .int .i64 0, .bool up]) (by simp [results, Tryz.results277, go_sem, *]) rfl ⟨rfl, B0⟩
set_option maxHeartbeats 4000000 in
theorem inOkS (x : Ik) (w : World) : Calls Tryz.prog 134 #[.agg #[.int .i64 x.k, .int .i64 x.q, .int .i64 x.r, .int .i64 x.c, .int .i64 x.b, .int .i64 x.p, .int .i64 x.h, .bool x.up]] w fun e w' => e = .returned (.bool (inOk x)) ∧ Below w.heap.size w w' := by
 obtain ⟨k, q, r, c, b, p, h, up⟩ := x;dsimp only
 obtain ⟨R, hR⟩ : ∃ R, R = inOk ⟨k, q, r, c, b, p, h, up⟩ := ⟨_, rfl⟩;rw [← hR];by_cases h1 : k = 1
 ·
  subst h1;have hR1 : Hid (R = (decide (0 ≤ q ∧ q ≤ 3) && (vOk r c b p && (decide (0 ≤ h ∧ h ≤ 8) && !up)))) := hR;clear hR;have B0 := below_new (w := w) (Obj.cells #[.int .i64 1, .int .i64 q, .int .i64 r, .int .i64 c, .int .i64 b, .int .i64 p, .int .i64 h, .bool up] 105);obtain ⟨y, hy⟩ : ∃ y, y = w.alloc (Obj.cells #[.int .i64 1, .int .i64 q, .int .i64 r, .int .i64 c, .int .i64 b, .int .i64 p, .int .i64 h, .bool up] 105) := ⟨_, rfl⟩;rw [← hy] at B0;have A0 : InAt y w.heap.size ⟨1, q, r, c, b, p, h, up⟩ := by rw [hy]; exact InAt.new w _ ⟨1, q, r, c, b, p, h, up⟩
  have S0 := A0.lt;go_enter Tryz.func134, Tryz.ntmps134
  go_wp2_with fail
  go_at_call 65
  rw [← hy];clear hy;refine (inB q 0 3 y).mono ?_;rintro e y1 ⟨rfl, rfl⟩;obtain ⟨a0, a1, a2, a3, a4, a5, a6, a7⟩ := A0;have A0 : InAt y1 w.heap.size ⟨1, q, r, c, b, p, h, up⟩ := ⟨a0, a1, a2, a3, a4, a5, a6, a7⟩;cases hF : decide (0 ≤ q ∧ q ≤ 3) with
  | false =>
   have hN : Hid (R = false) := by unfold Hid; rw [hR1.out, hF]; rfl
   clear hR1 hF;go_wp2
   go_ret
   exact ⟨by rw [hN.out]; rfl, B0⟩
  | true =>
   have hR2 : Hid (R = (vOk r c b p && (decide (0 ≤ h ∧ h ≤ 8) && !up))) := by unfold Hid; rw [hR1.out, hF]; rfl
   clear hR1 hF;go_wp2_with fail
   go_at_call 181
   refine (vOkS r c b p y1).mono ?_;rintro e y2 ⟨rfl, k2⟩;have B2 := B0.trans (k2.mono B0.size);have A2 := A0.below k2 S0;clear a0 a1 a2 a3 a4 a5 a6 a7 A0 k2;obtain ⟨a0, a1, a2, a3, a4, a5, a6, a7⟩ := A2;cases hF : vOk r c b p with
   | false =>
    have hN : Hid (R = false) := by unfold Hid; rw [hR2.out, hF]; rfl
    clear hR2 hF;go_wp2
    go_ret
    exact ⟨by rw [hN.out]; rfl, B2⟩
   | true =>
    have hR3 : Hid (R = (decide (0 ≤ h ∧ h ≤ 8) && !up)) := by unfold Hid; rw [hR2.out, hF]; rfl
    clear hR2 hF;go_wp2_with fail
    go_at_call 65
    refine (inB h 0 8 y2).mono ?_;rintro e y3 ⟨rfl, rfl⟩;cases hF : decide (0 ≤ h ∧ h ≤ 8) with
    | false =>
     have hN : Hid (R = false) := by unfold Hid; rw [hR3.out, hF]; rfl
     clear hR3 hF;go_wp2
     go_ret
     exact ⟨by rw [hN.out]; rfl, B2⟩
    | true =>
     have hN : Hid (R = !up) := by unfold Hid; rw [hR3.out, hF]; rfl
     clear hR3 hF;go_wp2
     go_ret
     exact ⟨by rw [hN.out]; rfl, B2⟩
 have d1 : (k == 1) = false := by simpa using h1
 by_cases h3 : k = 3
 ·
  subst h3;have hR1 : Hid (R = (decide (0 ≤ q ∧ q ≤ 3) && (decide (r = 0 ∧ c = 0 ∧ b = 0 ∧ p = 0) && (h == 0)))) := hR;clear hR h1 d1;have B0 := below_new (w := w) (Obj.cells #[.int .i64 3, .int .i64 q, .int .i64 r, .int .i64 c, .int .i64 b, .int .i64 p, .int .i64 h, .bool up] 105);obtain ⟨y, hy⟩ : ∃ y, y = w.alloc (Obj.cells #[.int .i64 3, .int .i64 q, .int .i64 r, .int .i64 c, .int .i64 b, .int .i64 p, .int .i64 h, .bool up] 105) := ⟨_, rfl⟩;rw [← hy] at B0;have A0 : InAt y w.heap.size ⟨3, q, r, c, b, p, h, up⟩ := by rw [hy]; exact InAt.new w _ ⟨3, q, r, c, b, p, h, up⟩
  have S0 := A0.lt;go_enter Tryz.func134, Tryz.ntmps134
  go_wp2_with fail
  go_at_call 65
  rw [← hy];clear hy;refine (inB q 0 3 y).mono ?_;rintro e y1 ⟨rfl, rfl⟩;obtain ⟨a0, a1, a2, a3, a4, a5, a6, a7⟩ := A0;cases hF : decide (0 ≤ q ∧ q ≤ 3) with
  | false =>
   have hN : Hid (R = false) := by unfold Hid; rw [hR1.out, hF]; rfl
   clear hR1 hF;go_wp2
   go_ret
   exact ⟨by rw [hN.out]; rfl, B0⟩
  | true =>
   have hR2 : Hid (R = (decide (r = 0 ∧ c = 0 ∧ b = 0 ∧ p = 0) && (h == 0))) := by unfold Hid; rw [hR1.out, hF]; rfl
   clear hR1 hF;have eV : ∀ w_ : World, (binOp .eql 103 (.agg #[.int .i64 r, .int .i64 c, .int .i64 b, .int .i64 p]) (.agg #[.int .i64 0, .int .i64 0, .int .i64 0, .int .i64 0])).run Tryz.prog w_ = .ok (.bool (decide (r = 0 ∧ c = 0 ∧ b = 0 ∧ p = 0))) w_ := fun w_ => by
    have := eqV r c b p 0 0 0 0 w_;go_simp
   cases hF : decide (r = 0 ∧ c = 0 ∧ b = 0 ∧ p = 0) with
   | false =>
    have hN : Hid (R = false) := by unfold Hid; rw [hR2.out, hF]; rfl
    rw [hF] at eV;clear hR2 hF;go_wp2
    go_ret
    exact ⟨by rw [hN.out]; rfl, B0⟩
   | true =>
    have hN : Hid (R = (h == 0)) := by unfold Hid; rw [hR2.out, hF]; rfl
    rw [hF] at eV;clear hR2 hF;go_wp2
    go_ret
    exact ⟨by rw [hN.out]; rfl, B0⟩
 have d3 : (k == 3) = false := by simpa using h3
 by_cases h2 : k = 2
 ·
  subst h2;have hN : Hid (R = decide (q = 0 ∧ r = 0 ∧ c = 0 ∧ b = 0 ∧ p = 0 ∧ h = 0 ∧ up = false)) := hR;clear hR h1 d1 h3 d3;have eI : ∀ w_ : World, (binOp .eql 105 (.agg #[.int .i64 2, .int .i64 q, .int .i64 r, .int .i64 c, .int .i64 b, .int .i64 p, .int .i64 h, .bool up]) (.agg #[.int .i64 2, .int .i64 0, .int .i64 0, .int .i64 0, .int .i64 0, .int .i64 0, .int .i64 0, .bool false])).run Tryz.prog w_ = .ok (.bool R) w_ := fun w_ => by
   rw [hN.out];go_simp
   all_goals ((repeat' split) <;> first | (simp_all; done) | grind)
  clear hN;have B0 := below_new (w := w) (Obj.cells #[.int .i64 2, .int .i64 q, .int .i64 r, .int .i64 c, .int .i64 b, .int .i64 p, .int .i64 h, .bool up] 105);obtain ⟨y, hy⟩ : ∃ y, y = w.alloc (Obj.cells #[.int .i64 2, .int .i64 q, .int .i64 r, .int .i64 c, .int .i64 b, .int .i64 p, .int .i64 h, .bool up] 105) := ⟨_, rfl⟩;rw [← hy] at B0;have A0 : InAt y w.heap.size ⟨2, q, r, c, b, p, h, up⟩ := by rw [hy]; exact InAt.new w _ ⟨2, q, r, c, b, p, h, up⟩
  have S0 := A0.lt;go_enter Tryz.func134, Tryz.ntmps134
  go_upto_region 7 with fail
  rw [← hy];clear hy;obtain ⟨a0, a1, a2, a3, a4, a5, a6, a7⟩ := A0;go_wp2
  go_ret
  exact ⟨rfl, B0⟩
 have d2 : (k == 2) = false := by simpa using h2
 have hN : Hid (R = false) := by unfold Hid; rw [hR]; unfold inOk; rw [if_neg h1, if_neg h3, if_neg h2]
 clear hR h1 h2 h3;have B0 := below_new (w := w) (Obj.cells #[.int .i64 k, .int .i64 q, .int .i64 r, .int .i64 c, .int .i64 b, .int .i64 p, .int .i64 h, .bool up] 105);obtain ⟨y, hy⟩ : ∃ y, y = w.alloc (Obj.cells #[.int .i64 k, .int .i64 q, .int .i64 r, .int .i64 c, .int .i64 b, .int .i64 p, .int .i64 h, .bool up] 105) := ⟨_, rfl⟩;rw [← hy] at B0;have A0 : InAt y w.heap.size ⟨k, q, r, c, b, p, h, up⟩ := by rw [hy]; exact InAt.new w _ ⟨k, q, r, c, b, p, h, up⟩
 have S0 := A0.lt;go_enter Tryz.func134, Tryz.ntmps134
 go_wp2
 go_ret
 rw [← hy];exact ⟨by rw [hN.out]; rfl, B0⟩
set_option maxHeartbeats 4000000 in
theorem ownS (id : Int) (ad : Option Addr) (cap : Nat) (L : List Pt) (port : Int) (w : World) (hv : FView ptEnc w ad L) (hl : L.length ≤ 1048576) :
  Calls Tryz.prog 137 #[.agg #[.int .i64 id, .slice ad L.length cap], .int .i64 port] w fun e w' => e = .returned (.agg #[.int .i64 (ownR id L port).1, .int .i64 (ownR id L port).2.1, .int .i64 (ownR id L port).2.2.1, .int .i64 (ownR id L port).2.2.2]) ∧ Below w.heap.size w w' := by
 have hB := hv.lt ptEnc_len (by omega);obtain ⟨y, hy⟩ := mk_ ((w.alloc (Obj.cells #[.int .i64 id, .slice ad L.length cap] 56)).alloc (Obj.cells #[.int .i64 0, .int .i64 0, .int .i64 0, .int .i64 0] 103));have B0 : Below w.heap.size w y := by rw [hy]; exact ((Below.refl _ _).alloc (Nat.le_refl _) _).alloc (by simp) _
 have A0 : BrAt y w.heap.size id (.slice ad L.length cap) := by rw [hy]; constructor <;> simp [go_sem]
 have V0 : VBox y (w.heap.size + 1) 0 0 0 0 := by rw [hy]; refine ⟨?_, fun i => ?_⟩; (refine ⟨?_, ?_, ?_, ?_⟩ <;> simp [go_sem]); simp [go_sem]
 have S0 : w.heap.size + 1 < y.heap.size := V0.lt;have hv1 := hv.below B0 hB;have hB1 := hv1.lt ptEnc_len (by omega);obtain ⟨Y, hY⟩ := mk_ (ownR id L port);rw [← hY];replace hY : Hid _ := hY;go_enter Tryz.func137, Tryz.ntmps137
 go_wp2_with fail
 go_at_call 81
 rw [← hy];clear hy hv hB;refine (bOkS id ad cap L y hv1 hl).mono ?_;rintro e w1 ⟨rfl, k1⟩;have B1 : Below w.heap.size w w1 := B0.trans (k1.mono B0.size);have A1 := A0.below k1 (by omega);have V1 := V0.below k1 (by omega);have S1 : w.heap.size + 1 < w1.heap.size := V1.lt;have hv2 := hv1.below k1 hB1;have hB2 := hv2.lt ptEnc_len (by omega);clear A0 V0 hv1 hB1 k1 B0 S0;cases hb : bOk id L with
 | false =>
  have hN : Hid (Y = (0, 0, 0, 0)) := by unfold Hid; rw [hY.out]; unfold ownR; rw [hb]; rfl
  clear hY;obtain ⟨⟨t0, t1, t2, t3⟩, tf⟩ := V1;have BZ := B1.setCell (p := ⟨w.heap.size + 1, 0, none⟩) (by show _ ≤ w.heap.size + 1; omega) (.int .i64 0);have BZ := BZ.setCell (p := ⟨w.heap.size + 1, 1, none⟩) (by show _ ≤ w.heap.size + 1; omega) (.int .i64 0);have BZ := BZ.setCell (p := ⟨w.heap.size + 1, 2, none⟩) (by show _ ≤ w.heap.size + 1; omega) (.int .i64 0);have BZ := BZ.setCell (p := ⟨w.heap.size + 1, 3, none⟩) (by show _ ≤ w.heap.size + 1; omega) (.int .i64 0);go_wp2
  refine bodyPost_ret (v := .agg #[.int .i64 0, .int .i64 0, .int .i64 0, .int .i64 0]) (by simp [results, Tryz.results137, go_sem, *]) rfl ⟨by rw [hN.out], BZ⟩
 | true =>
  have hlen := (bOk_all hb).2.1;by_cases hp : 0 ≤ port ∧ port < (L.length : Int)
  rotate_left
  ·
   have hN : Hid (Y = (0, 0, 0, 0)) := by unfold Hid; rw [hY.out]; unfold ownR; rw [hb, decide_eq_false hp]; rfl
   have dp : decide (0 ≤ port ∧ port < (L.length : Int)) = false := decide_eq_false hp;clear hY;obtain ⟨a0, a1⟩ := A1;replace hp : Hid _ := hp;have es : decide (0 ≤ port ∧ port ≤ (L.length : Int) - 1) = decide (0 ≤ port ∧ port < (L.length : Int)) := decide_eq_decide.2 (by omega);go_wp2_with fail
   go_at_call 65
   refine (inB port 0 ((L.length : Int) - 1) w1).mono ?_;rintro e w2 ⟨rfl, hw2⟩;have kp : Below w1.heap.size w1 w2 := by rw [hw2]; exact Below.refl _ _
   rw [es];clear es hw2;rw [dp];have B2 := B1.trans (kp.mono B1.size);have V2 := V1.below kp S1;clear dp;obtain ⟨⟨t0, t1, t2, t3⟩, tf⟩ := V2;have BZ := B2.setCell (p := ⟨w.heap.size + 1, 0, none⟩) (by show _ ≤ w.heap.size + 1; omega) (.int .i64 0);have BZ := BZ.setCell (p := ⟨w.heap.size + 1, 1, none⟩) (by show _ ≤ w.heap.size + 1; omega) (.int .i64 0);have BZ := BZ.setCell (p := ⟨w.heap.size + 1, 2, none⟩) (by show _ ≤ w.heap.size + 1; omega) (.int .i64 0);have BZ := BZ.setCell (p := ⟨w.heap.size + 1, 3, none⟩) (by show _ ≤ w.heap.size + 1; omega) (.int .i64 0);go_wp2
   refine bodyPost_ret (v := .agg #[.int .i64 0, .int .i64 0, .int .i64 0, .int .i64 0]) (by simp [results, Tryz.results137, go_sem, *]) rfl ⟨by rw [hN.out], BZ⟩
  have dp : decide (0 ≤ port ∧ port < (L.length : Int)) = true := decide_eq_true hp;have hN : Hid (Y = match rootO id L with
   | none => (id, 0, id, port)
   | some k => ((L.getD k Pt.nil).r, (L.getD k Pt.nil).c + 1, id, port)) := by unfold Hid; rw [hY.out]; unfold ownR; rw [hb, dp]; rfl
  clear hY;replace hp : Hid _ := hp;obtain ⟨a0, a1⟩ := A1;have es : decide (0 ≤ port ∧ port ≤ (L.length : Int) - 1) = decide (0 ≤ port ∧ port < (L.length : Int)) := decide_eq_decide.2 (by omega);go_wp2_with fail
  go_at_call 65
  refine (inB port 0 ((L.length : Int) - 1) w1).mono ?_;rintro e w2 ⟨rfl, hw2⟩;have kp : Below w1.heap.size w1 w2 := by rw [hw2]; exact Below.refl _ _
  rw [es];clear es hw2;rw [dp];have B2 := B1.trans (kp.mono B1.size);have A2 := BrAt.below ⟨a0, a1⟩ kp (by omega);have V2 := V1.below kp S1;have S2 : w.heap.size + 1 < w2.heap.size := V2.lt;have hv3 := hv2.below kp hB2;have hB3 := hv3.lt ptEnc_len (by omega);clear dp a0 a1 kp V1 hv2 hB2 B1;obtain ⟨a0, a1⟩ := A2;go_wp2_with fail
  go_at_call 185
  refine (rootPS id ad cap L w2 hv3 hl).mono ?_;rintro e w3 ⟨rfl, k3⟩;have B3 := B2.trans (k3.mono B2.size);have A3 := BrAt.below ⟨a0, a1⟩ k3 (by omega);have V3 := V2.below k3 S2;have S3 : w.heap.size + 1 < w3.heap.size := V3.lt;have hv4 := hv3.below k3 hB3;clear a0 a1 k3 V2 hv3 hB3 B2;obtain ⟨a0, a1⟩ := A3;obtain ⟨⟨t0, t1, t2, t3⟩, tf⟩ := V3;cases hr : rootO id L with
  | none =>
   have hN2 : Hid (Y = (id, 0, id, port)) := by unfold Hid; rw [hN.out, hr]
   clear hN;have BZ := B3.setCell (p := ⟨w.heap.size + 1, 0, none⟩) (by show _ ≤ w.heap.size + 1; omega) (.int .i64 id);have BZ := BZ.setCell (p := ⟨w.heap.size + 1, 1, none⟩) (by show _ ≤ w.heap.size + 1; omega) (.int .i64 0);have BZ := BZ.setCell (p := ⟨w.heap.size + 1, 2, none⟩) (by show _ ≤ w.heap.size + 1; omega) (.int .i64 id);have BZ := BZ.setCell (p := ⟨w.heap.size + 1, 3, none⟩) (by show _ ≤ w.heap.size + 1; omega) (.int .i64 port);simp only [oI, Option.isSome];go_wp2
   refine bodyPost_ret (v := .agg #[.int .i64 id, .int .i64 0, .int .i64 id, .int .i64 port]) (by simp [results, Tryz.results137, go_sem, *]) rfl ⟨by rw [hN2.out], BZ⟩
  | some k =>
   obtain ⟨_, hk, hcd⟩ := rootO_some hr;obtain ⟨g, hg⟩ : ∃ g, L.getD k Pt.nil = g := ⟨_, rfl⟩;have hN2 : Hid (Y = (g.r, g.c + 1, id, port)) := by unfold Hid; rw [hN.out, hr, ← hg]
   have hc20 : g.c < 20 := by
    rw [hg] at hcd;simp only [cand, Bool.and_eq_true, decide_eq_true_eq] at hcd;exact hcd.2.2.2.1
   have hc0 : 0 ≤ g.c := by
    rw [hg] at hcd;simp only [cand, Bool.and_eq_true, decide_eq_true_eq] at hcd;have h1 := (bOk_all hb).2.2 k;rw [hg] at h1;have h2 := (pOk_has h1 hcd.1).2.1;simp only [vOk, decide_eq_true_eq] at h2;omega
   obtain ⟨bk, off, rfl, _⟩ := hv4 (by omega);obtain ⟨c0, c1, c2, c3, c4, c5, c6, c7, c8, c9, c10⟩ : PtAtO w3 bk (off + k * 11) g := by rw [← hg]; exact ptAtO_of (hv4.at_ ptEnc_len Pt.nil hk)
   clear hN hg hcd hr hv4;obtain ⟨y4, hy4⟩ := mk_ (w3.alloc (Obj.cells #[.int .i64 g.r, .int .i64 g.c, .int .i64 g.b, .int .i64 g.p] 103));have kn : Below w3.heap.size w3 y4 := by rw [hy4]; exact below_new _
   have G4 : VecAt y4 w3.heap.size g.r g.c g.b g.p := by rw [hy4]; exact vecAt_box w3 _ _ _ _ _
   have A4 := BrAt.below ⟨a0, a1⟩ kn (by omega);have V4 := VBox.below ⟨⟨t0, t1, t2, t3⟩, tf⟩ kn (by omega);have B4 := B3.trans (kn.mono B3.size);simp only [oI, Option.isSome];go_upto_region 7 with fail
   rw [← hy4];clear hy4 a0 a1 t0 t1 t2 t3 tf kn c0 c1 c2 c3 c4 c5 c6 c7 c8 c9 c10;generalize w3.heap.size = Q at S3 G4 ⊢
   obtain ⟨a0, a1⟩ := A4;obtain ⟨⟨t0, t1, t2, t3⟩, tf⟩ := V4;obtain ⟨g0, g1, g2, g3⟩ := G4;have BZ := B4.setCell (p := ⟨w.heap.size + 1, 0, none⟩) (by show _ ≤ w.heap.size + 1; omega) (.int .i64 g.r);have BZ := BZ.setCell (p := ⟨w.heap.size + 1, 1, none⟩) (by show _ ≤ w.heap.size + 1; omega) (.int .i64 (g.c + 1));have BZ := BZ.setCell (p := ⟨w.heap.size + 1, 2, none⟩) (by show _ ≤ w.heap.size + 1; omega) (.int .i64 id);have BZ := BZ.setCell (p := ⟨w.heap.size + 1, 3, none⟩) (by show _ ≤ w.heap.size + 1; omega) (.int .i64 port);go_wp2
   refine bodyPost_ret (v := .agg #[.int .i64 g.r, .int .i64 (g.c + 1), .int .i64 id, .int .i64 port]) (by simp [results, Tryz.results137, go_sem, *]) rfl ⟨by rw [hN2.out], BZ⟩
set_option maxHeartbeats 2000000 in
theorem hopsS (id : Int) (ad : Option Addr) (cap : Nat) (L : List Pt) (w : World) (hv : FView ptEnc w ad L) (hl : L.length ≤ 1048576) :
  Calls Tryz.prog 138 #[.agg #[.int .i64 id, .slice ad L.length cap]] w fun e w' => e = .returned (.int .i64 (hopsR id L)) ∧ Below w.heap.size w w' := by
 have hB := hv.lt ptEnc_len (by omega);obtain ⟨y, hy⟩ := mk_ (w.alloc (Obj.cells #[.int .i64 id, .slice ad L.length cap] 56));have B0 : Below w.heap.size w y := by rw [hy]; exact below_new _
 have A0 : BrAt y w.heap.size id (.slice ad L.length cap) := by rw [hy]; exact BrAt.new w _ _ _
 have S0 := A0.lt;have hv1 := hv.below B0 hB;have hB1 := hv1.lt ptEnc_len (by omega);obtain ⟨Y, hY⟩ := mk_ (hopsR id L);rw [← hY];replace hY : Hid _ := hY;go_enter Tryz.func138, Tryz.ntmps138
 go_wp2_with fail
 go_at_call 185
 rw [← hy];clear hy hv hB;refine (rootPS id ad cap L y hv1 hl).mono ?_;rintro e w3 ⟨rfl, k3⟩;have B3 := B0.trans (k3.mono B0.size);obtain ⟨a0, a1⟩ := A0.below k3 (by omega);have hv4 := hv1.below k3 hB1;clear k3 hv1 hB1 A0;cases hr : rootO id L with
 | none =>
  have hN2 : Hid (Y = 0) := by unfold Hid; rw [hY.out]; unfold hopsR; rw [hr]
  simp only [oI, Option.isSome];go_wp2
  go_ret
  exact ⟨by rw [hN2.out]; rfl, B3⟩
 | some k =>
  obtain ⟨hb, hk, hcd⟩ := rootO_some hr;obtain ⟨g, hg⟩ : ∃ g, L.getD k Pt.nil = g := ⟨_, rfl⟩;have hN2 : Hid (Y = g.h + 1) := by unfold Hid; rw [hY.out]; unfold hopsR; rw [hr, ← hg]
  have hlen := (bOk_all hb).2.1;have hh8 : 0 ≤ g.h ∧ g.h < 8 := by
   rw [hg] at hcd;simp only [cand, Bool.and_eq_true, decide_eq_true_eq] at hcd;have h1 := (bOk_all hb).2.2 k;rw [hg] at h1;exact ⟨(pOk_has h1 hcd.1).2.2.1, hcd.2.2.2.2⟩
  obtain ⟨h0, h8⟩ := hh8;obtain ⟨bk, off, rfl, _⟩ := hv4 (by omega);obtain ⟨c0, c1, c2, c3, c4, c5, c6, c7, c8, c9, c10⟩ : PtAtO w3 bk (off + k * 11) g := by rw [← hg]; exact ptAtO_of (hv4.at_ ptEnc_len Pt.nil hk)
  clear hY hg hcd hr hv4 hb;simp only [oI, Option.isSome];go_wp2
  go_ret
  exact ⟨by rw [hN2.out]; rfl, B3⟩
end Go.Proofs.YtnpiljegdiconaaGreat
namespace Go.Proofs.YtnpiljegdiconaaGreat
open Go.ChangeShapes Go.WideShapes Go.ChangeAt Go.RowKit
open Go.ChangeMaps (open_string shut_string)
set_option linter.unusedVariables false
set_option maxRecDepth 100000
end Go.Proofs.YtnpiljegdiconaaGreat
