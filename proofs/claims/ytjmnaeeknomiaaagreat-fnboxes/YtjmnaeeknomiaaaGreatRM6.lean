import Derived.Test.YtjmnaeeknomiaaaGreatRM5
namespace Go.Proofs.YtjmnaeeknomiaaaGreat
open Go.ChangeShapes Go.WideShapes Go.ChangeAt Go.RowKit
open Go.ChangeMaps (open_string shut_string)
set_option linter.unusedVariables false
set_option maxRecDepth 100000
set_option maxHeartbeats 32000000
set_option linter.unusedSimpArgs false
open Go.Proofs.Tryz
attribute [local go_sem] ji ja
structure Ik where
 k : Int
 q : Int
 r : Int
 c : Int
 b : Int
 p : Int
 h : Int
 up : Bool
abbrev ic (x : Ik) : Array Value := #[ji x.k, ji x.q, ji x.r, ji x.c, ji x.b, ji x.p, ji x.h, .bool x.up]
attribute [local go_sem] ic
structure BD (w : World) (o : Nat) (x : Ik) : Prop where
 c0 : w.cell? (ja o 0) = some (ji x.k)
 c1 : w.cell? (ja o 1) = some (ji x.q)
 c2 : w.cell? (ja o 2) = some (ji x.r)
 c3 : w.cell? (ja o 3) = some (ji x.c)
 c4 : w.cell? (ja o 4) = some (ji x.b)
 c5 : w.cell? (ja o 5) = some (ji x.p)
 c6 : w.cell? (ja o 6) = some (ji x.h)
 c7 : w.cell? (ja o 7) = some (.bool x.up)
theorem BD.all {w : World} {o : Nat} {x : Ik} (h : BD w o x) : w.cell? (ja o 0) = some (ji x.k) ∧ w.cell? (ja o 1) = some (ji x.q) ∧ w.cell? (ja o 2) = some (ji x.r) ∧ w.cell? (ja o 3) = some (ji x.c) ∧ w.cell? (ja o 4) = some (ji x.b) ∧ w.cell? (ja o 5) = some (ji x.p) ∧ w.cell? (ja o 6) = some (ji x.h) ∧ w.cell? (ja o 7) = some (.bool x.up) := ⟨h.c0, h.c1, h.c2, h.c3, h.c4, h.c5, h.c6, h.c7⟩
theorem BD.keep {w w' : World} {o : Nat} {x : Ik} (h : BD w o x) (k : w'.heap[o]? = w.heap[o]?) : BD w' o x :=
 ⟨(World.cell?_of_block (a := (ja o 0)) k).trans h.c0, (World.cell?_of_block (a := (ja o 1)) k).trans h.c1, (World.cell?_of_block (a := (ja o 2)) k).trans h.c2, (World.cell?_of_block (a := (ja o 3)) k).trans h.c3, (World.cell?_of_block (a := (ja o 4)) k).trans h.c4, (World.cell?_of_block (a := (ja o 5)) k).trans h.c5, (World.cell?_of_block (a := (ja o 6)) k).trans h.c6, (World.cell?_of_block (a := (ja o 7)) k).trans h.c7⟩
theorem BD.below {w w' : World} {o n : Nat} {x : Ik} (h : BD w o x) (k : Below n w w') (ho : o < n) : BD w' o x := h.keep (k.block o ho)
theorem BD.lt {w : World} {o : Nat} {x : Ik} (h : BD w o x) : o < w.heap.size := World.block_lt_of_cell? w _ h.c0
theorem BD.new (w : World) (t : TypeId) (x : Ik) : BD (w.alloc (Obj.cells #[ji x.k, ji x.q, ji x.r, ji x.c, ji x.b, ji x.p, ji x.h, .bool x.up] t)) w.heap.size x := by
 constructor <;> simp [go_sem]
def Ay (x : Ik) : Bool :=
 if x.k = 1 then decide (0 ≤ x.q ∧ x.q ≤ 3) && (Ad x.r x.c x.b x.p && (decide (0 ≤ x.h ∧ x.h ≤ 8) && !x.up))
 else if x.k = 3 then decide (0 ≤ x.q ∧ x.q ≤ 3) && (decide (x.r = 0 ∧ x.c = 0 ∧ x.b = 0 ∧ x.p = 0) && (x.h == 0))
 else if x.k = 2 then decide (x.q = 0 ∧ x.r = 0 ∧ x.c = 0 ∧ x.b = 0 ∧ x.p = 0 ∧ x.h = 0 ∧ x.up = false)
 else false
def DW (x : Ik) : Value :=
 if x.k = 1 then .iface 187 (.agg #[ji x.q, ji x.r, ji x.c, ji x.b, ji x.p, ji x.h])
 else if x.k = 2 then .iface 188 (.agg #[])
 else if x.k = 3 then .iface 190 (.agg #[ji x.q, .bool x.up])
 else .nilIface
theorem Ej (x : Ik) (w : World) : Calls prog 131 #[.agg #[ji x.k, ji x.q, ji x.r, ji x.c, ji x.b, ji x.p, ji x.h, .bool x.up]] w fun e w' => e = .returned (DW x) ∧ Bw w w' := by
 obtain ⟨k, q, r, c, b, p, h, up⟩ := x;dsimp only
 have B0 := Ae (w := w) (Obj.cells #[ji k, ji q, ji r, ji c, ji b, ji p, ji h, .bool up] 64);by_cases h1 : k = 1
 focus
  subst h1;rw [show DW ⟨1, q, r, c, b, p, h, up⟩ = .iface 187 (.agg #[ji q, ji r, ji c, ji b, ji p, ji h]) from rfl]
 rotate_left;have d1 : (k == 1) = false := by simpa using h1
 by_cases h2 : k = 2
 focus
  subst h2;rw [show DW ⟨2, q, r, c, b, p, h, up⟩ = .iface 188 (.agg #[]) from rfl]
 rotate_left;have d2 : (k == 2) = false := by simpa using h2
 by_cases h3 : k = 3
 focus
  subst h3;rw [show DW ⟨3, q, r, c, b, p, h, up⟩ = .iface 190 (.agg #[ji q, .bool up]) from rfl]
 rotate_left;have d3 : (k == 3) = false := by simpa using h3
 have e : DW ⟨k, q, r, c, b, p, h, up⟩ = .nilIface := by unfold DW; rw [if_neg h1, if_neg h2, if_neg h3]
 rw [e];all_goals
  go_enter func131, ntmps131
  go_wp2
  go_ret
  exact ⟨rfl, B0⟩
theorem Hf (q : Int) (w : World) : Calls prog 225 #[ji q] w fun e w' => e = .returned (.bool (decide (0 ≤ q ∧ q ≤ 3))) ∧ w' = w := by
 by_cases h1 : 0 ≤ q
 focus
  have d1 : decide (0 ≤ q) = true := decide_eq_true h1;by_cases h2 : q < 4
  focus
   have d2 : decide (q < 4) = true := decide_eq_true h2;rw [decide_eq_true (show 0 ≤ q ∧ q ≤ 3 by omega)];clear h1 h2
  rotate_left;focus
   have d2 : decide (q < 4) = false := decide_eq_false h2;rw [decide_eq_false (show ¬ (0 ≤ q ∧ q ≤ 3) by omega)];clear h1 h2
  rotate_left
 rotate_left 2;focus
  have d1 : decide (0 ≤ q) = false := decide_eq_false h1;rw [decide_eq_false (show ¬ (0 ≤ q ∧ q ≤ 3) by omega)];clear h1
 rotate_left;all_goals
  go_enter func225, ntmps225
  go_wp2
  go_ret
  exact ⟨rfl, rfl⟩
theorem GU (q r c b p h : Int) (w : World) : Calls prog 223 #[.agg #[ji q, ji r, ji c, ji b, ji p, ji h]] w fun e w' => e = .returned (.bool (decide (0 ≤ q ∧ q ≤ 3) && (Ad r c b p && decide (0 ≤ h ∧ h ≤ 8)))) ∧ Bw w w' := by
 obtain ⟨y, hy, B0⟩ := AI w (Obj.cells #[ji q, ji r, ji c, ji b, ji p, ji h] 187);have C0 : ∀ i v, (#[ji q, ji r, ji c, ji b, ji p, ji h] : Array Value)[i]? = some v → y.cell? (ja w.heap.size i) = some v := by
  intro i v h;rw [hy];have hi : i < 6 := (Array.getElem?_eq_some_iff.1 h).1;rcases (by omega : i = 0 ∨ i = 1 ∨ i = 2 ∨ i = 3 ∨ i = 4 ∨ i = 5) with rfl | rfl | rfl | rfl | rfl | rfl <;> (cases h; simp [go_sem])
 have S0 : w.heap.size < y.heap.size := by rw [hy]; simp
 obtain ⟨R, hR⟩ := AC (decide (0 ≤ q ∧ q ≤ 3) && (Ad r c b p && decide (0 ≤ h ∧ h ≤ 8)));rw [← hR];go_enter func223, ntmps223
 go_wp2_with fail
 go_at_call 225
 rw [← hy];clear hy;refine (Hf q y).mono ?_;rintro e y1 ⟨rfl, rfl⟩;cases h1 : decide (0 ≤ q ∧ q ≤ 3) with
 | false =>
  have hN : Hid (R = false) := by unfold Hid; rw [hR, h1]; rfl
  clear hR h1;go_wp2
  go_ret
  exact ⟨by rw [hN.out]; rfl, B0⟩
 | true =>
  have hR2 : Hid (R = (Ad r c b p && decide (0 ≤ h ∧ h ≤ 8))) := by unfold Hid; rw [hR, h1]; rfl
  clear hR h1;have c1 := C0 1 _ rfl;have c2 := C0 2 _ rfl;have c3 := C0 3 _ rfl;have c4 := C0 4 _ rfl;go_wp2_with fail
  go_at_call 181
  refine (Hu r c b p y1).mono ?_;rintro e y2 ⟨rfl, k2⟩;have B2 := AE B0 k2;have c5 : y2.cell? (ja w.heap.size 5) = some (ji h) := (World.cell?_of_block (a := (ja w.heap.size 5)) (k2.block _ S0)).trans (C0 5 _ rfl);clear c1 c2 c3 c4 C0 k2;cases h2 : Ad r c b p with
  | false =>
   have hN : Hid (R = false) := by unfold Hid; rw [hR2.out, h2]; rfl
   clear hR2 h2;go_wp2
   go_ret
   exact ⟨by rw [hN.out]; rfl, B2⟩
  | true =>
   have hR3 : Hid (decide (0 ≤ h ∧ h ≤ 8) = R) := by unfold Hid; rw [hR2.out, h2]; rfl
   clear hR2 h2;go_wp2_with fail
   go_at_call 182
   refine (HH h y2).mono ?_;rintro e y3 ⟨rfl, rfl⟩;rw [hR3.out];go_wp2
   go_ret
   exact ⟨rfl, B2⟩
theorem Hp (q r c b p h : Int) (w : World) : Calls prog 224 #[.agg #[ji q, ji r, ji c, ji b, ji p, ji h]] w fun e w' => e = .returned (.agg #[ji 1, ji q, ji r, ji c, ji b, ji p, ji h, .bool false]) ∧ Bw w w' := by
 have B0 := ((Below.refl w.heap.size w).alloc (Nat.le_refl _) (Obj.cells #[ji q, ji r, ji c, ji b, ji p, ji h] 187)).alloc (by simp) (Obj.cells #[ji 1, ji q, ji r, ji c, ji b, ji p, ji h, .bool false] 64);go_enter func224, ntmps224
 go_wp2
 refine bodyPost_ret (v := .agg #[ji 1, ji q, ji r, ji c, ji b, ji p, ji h, .bool false]) (by simp [results, results224, go_sem, *]) rfl ⟨rfl, B0⟩
theorem JO (w : World) : Calls prog 226 #[.agg #[]] w fun e w' => e = .returned (.bool true) ∧ Bw w w' := by
 go_enter func226, ntmps226
 go_wp2
 go_ret
 exact ⟨rfl, Ae _⟩
theorem J7 (w : World) : Calls prog 227 #[.agg #[]] w fun e w' => e = .returned (.agg #[ji 2, ji 0, ji 0, ji 0, ji 0, ji 0, ji 0, .bool false]) ∧ Bw w w' := by
 have B0 := ((Below.refl w.heap.size w).alloc (Nat.le_refl _) (Obj.cells #[] 188)).alloc (by simp) (Obj.cells #[ji 2, ji 0, ji 0, ji 0, ji 0, ji 0, ji 0, .bool false] 64);go_enter func227, ntmps227
 go_wp2
 refine bodyPost_ret (v := .agg #[ji 2, ji 0, ji 0, ji 0, ji 0, ji 0, ji 0, .bool false]) (by simp [results, results227, go_sem, *]) rfl ⟨rfl, B0⟩
theorem HZ (q : Int) (up : Bool) (w : World) : Calls prog 228 #[.agg #[ji q, .bool up]] w fun e w' => e = .returned (.bool (decide (0 ≤ q ∧ q ≤ 3))) ∧ Bw w w' := by
 have B0 := Ae (w := w) (Obj.cells #[ji q, .bool up] 190);obtain ⟨R, hR⟩ : ∃ R, decide (0 ≤ q ∧ q ≤ 3) = R := ⟨_, rfl⟩;rw [hR];replace hR : Hid _ := hR;go_enter func228, ntmps228
 go_wp2_with fail
 go_at_call 225
 refine (Hf q _).mono ?_;rintro e y1 ⟨rfl, rfl⟩;rw [hR.out];go_wp2
 go_ret
 exact ⟨rfl, B0⟩
theorem KJ (q : Int) (up : Bool) (w : World) : Calls prog 229 #[.agg #[ji q, .bool up]] w fun e w' => e = .returned (.agg #[ji 3, ji q, ji 0, ji 0, ji 0, ji 0, ji 0, .bool up]) ∧ Bw w w' := by
 have B0 := ((Below.refl w.heap.size w).alloc (Nat.le_refl _) (Obj.cells #[ji q, .bool up] 190)).alloc (by simp) (Obj.cells #[ji 3, ji q, ji 0, ji 0, ji 0, ji 0, ji 0, .bool up] 64);go_enter func229, ntmps229
 go_wp2
 refine bodyPost_ret (v := .agg #[ji 3, ji q, ji 0, ji 0, ji 0, ji 0, ji 0, .bool up]) (by simp [results, results229, go_sem, *]) rfl ⟨rfl, B0⟩
attribute [local go_sem] pc
def DH (up : Bool) : Pt := if up then ⟨true, false, 0, 0, 0, 0, 0, 0, 3, 0, false⟩ else Pt.nil
theorem Ia {x : Pt} (h : Ax x = true) : CK x = if ((BQ x).ro = 1 ∨ (BQ x).ro = 2) ∧ 0 < (BQ x).wa then { BQ x with wa := (BQ x).wa - 1, op := ((BQ x).wa - 1 == 0) } else BQ x := by
 obtain ⟨h1, h2, h3, h4, _⟩ := G8.1 h;obtain ⟨k1, k2, k3, k4⟩ := Gq x;unfold CK EB;generalize BQ x = y at *
 obtain ⟨up, has, r, c, b, p, hh, l, ro, wa, op⟩ := y;dsimp only at *
 by_cases hc : (ro = 1 ∨ ro = 2) ∧ 0 < wa
 ·
  rw [if_pos hc, if_pos hc];congr 1
  unfold BG;rw [Bool.eq_iff_iff];simp only [decide_eq_true_eq, beq_iff_eq];omega
 rw [if_neg hc, if_neg hc];congr 1
 rw [k4, h3, k2, k3]
end Go.Proofs.YtjmnaeeknomiaaaGreat
