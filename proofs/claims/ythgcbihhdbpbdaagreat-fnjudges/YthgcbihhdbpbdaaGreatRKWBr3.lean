import Derived.Test.YthgcbihhdbpbdaaGreatRM4
namespace Go.Proofs.YthgcbihhdbpbdaaGreat
open Go.ChangeShapes Go.WideShapes Go.ChangeAt Go.RowKit
open Go.ChangeMaps (open_string shut_string)
set_option linter.unusedVariables false
set_option maxRecDepth 100000
set_option maxHeartbeats 32000000
set_option linter.unusedSimpArgs false
open Go.Proofs.Tryz
theorem H1 {L : List Pt} {k : Nat} (h : k < L.length) (hq : Ai (L.getD k Pt.nil) = false) : L.all Ai = false := by
 rw [List.all_eq_false];exact ⟨L[k], List.getElem_mem h, by rw [show L.getD k Pt.nil = L[k] by simp [List.getD, h]] at hq; simp [hq]⟩
theorem Hm {L : List Pt} (h : ∀ j, j < L.length → Ai (L.getD j Pt.nil) = true) : L.all Ai = true := by
 rw [List.all_eq_true];intro x hx;obtain ⟨i, hi, rfl⟩ := List.getElem_of_mem hx;have := h i hi;rwa [show L.getD i Pt.nil = L[i] by simp [List.getD, hi]] at this
theorem Jf (x : Pt) (w : World) : Calls prog 90 #[.agg #[.bool x.up, .bool x.has, ji x.r, ji x.c, ji x.b, ji x.p, ji x.h, ji x.l, ji x.ro, ji x.wa, .bool x.op]] w fun e w' => e = .returned (.bool (!Ai x)) ∧ Bw w w' := by
 obtain ⟨y, hy, B0⟩ := AI w (Obj.cells (pc x) 70);obtain ⟨o, ho⟩ := AB (Ai x);rw [← ho];replace ho : Hid _ := ho;go_enter func90, ntmps90
 go_wp2_with fail
 go_at_call 130
 rw [← hy];clear hy;refine (GB x y).mono ?_;rintro e w1 ⟨rfl, k1⟩;have B1 := AA B0 k1;rw [← ho.out];go_wp2
 go_ret
 exact ⟨rfl, B1⟩
theorem Lg (ad : Option Addr) (cap : Nat) (L : List Pt) (w : World) (hv : AH AJ w ad L) (hl : L.length ≤ 1048576) :
  Calls prog 129 #[.slice ad L.length cap, .func (Fn.func 90) #[] #[]] w fun e w' => (∃ r : Int, e = .returned (ji r) ∧ (decide (0 ≤ r) = !L.all Ai) ∧ r ≤ 1048576 ∧ -1 ≤ r) ∧ Bw w w' := by
 have hB := hv.lt AK (by omega);go_enter func129, ntmps129
 go_wp2
 go_loopw [8] (fun i wr => ∃ k : Nat, i = .int .i64 (k : Int) ∧ k ≤ L.length ∧ Hid (∀ j, j < k → Ai (L.getD j Pt.nil) = true) ∧ Below w.heap.size w wr) (fun i _ => L.length - (intOf i).toNat)
 case atStart => exact ⟨0, rfl, Nat.zero_le _, fun j hj => absurd hj (by omega), Below.refl _ _⟩
 case round =>
  obtain ⟨k, rfl, hk, hF, hb⟩ := hrel;by_cases hlt : k < L.length
  ·
   obtain ⟨b, off, rfl, _⟩ := hv (by omega);obtain ⟨h, hh⟩ : ∃ h, L.getD k Pt.nil = h := ⟨_, rfl⟩;have hck : BL wr b (off + k * 11) h := by
    rw [← hh];exact BV ((hv.below hb hB).at_ AK Pt.nil hlt)
   replace hck := hck.all;replace hh : Hid _ := hh;clear hB hv;go_wp2_with fail
   go_at_call 90
   refine (Jf h wr).mono ?_;rintro e w3 ⟨rfl, k3⟩;have b3 := AA hb k3;by_cases hq : Ai h = true
   ·
    rw [hq];go_wp2
    go_roundw
    case rel =>
     refine ⟨k + 1, by go_num, by omega, fun j hj => ?_, b3⟩;by_cases e : j = k
     ·
      rw [e, hh.out]; exact hq
     exact hF.out j (by omega)
    case measure => simp [intOf]; omega
   have hq' : Ai h = false := by simpa using hq
   rw [hq'];go_wp2
   go_ret
   refine ⟨⟨k, rfl, ?_, by omega, by omega⟩, b3⟩;rw [H1 hlt (by rw [hh.out]; exact hq')];simp
  obtain rfl : k = L.length := by omega
  go_wp2
  go_ret
  refine ⟨⟨-1, rfl, ?_, by omega, by omega⟩, hb⟩;rw [Hm hF.out];rfl
theorem LU (ad : Option Addr) (cap : Nat) (L : List Pt) (w : World) (hv : AH AJ w ad L) (hl : L.length ≤ 1048576) :
  Calls prog 89 #[.slice ad L.length cap, .func (Fn.func 90) #[] #[]] w fun e w' => e = .returned (.bool (!L.all Ai)) ∧ Bw w w' := by
 have hI := Lg ad cap L w hv hl;generalize (!L.all Ai) = B at *
 go_enter func89, ntmps89
 go_wp2_with fail
 go_at_call 129
 refine hI.mono ?_;rintro e w1 ⟨⟨r, rfl, hr, r1, r2⟩, k1⟩;go_wp2
 go_ret
 exact ⟨rfl, k1⟩
theorem Fb (id : Int) (ad : Option Addr) (cap : Nat) (L : List Pt) (w : World) (hv : AH AJ w ad L) (hl : L.length ≤ 1048576) :
  Calls prog 42 #[.agg #[ji id, .slice ad L.length cap]] w fun e w' => e = .returned (.bool (Bp id L)) ∧ Bw w w' := by
 have hB := hv.lt AK (by omega);obtain ⟨R, hR⟩ := AB (Bp id L);rw [← hR];by_cases h1 : 1 ≤ id
 rotate_left
 ·
  have hC : R = false := by rw [hR]; simp only [Bp, decide_eq_false (show ¬ (1 ≤ id ∧ id ≤ 9) by omega)]; simp
  rw [hC];clear hC hR;have d1 : decide (1 ≤ id) = false := decide_eq_false h1;clear h1;go_enter func42, ntmps42
  go_wp2
  go_ret
  exact ⟨rfl, Al _⟩
 have d1 : decide (1 ≤ id) = true := decide_eq_true h1;by_cases h2 : id ≤ 9
 rotate_left
 ·
  have hC : R = false := by rw [hR]; simp only [Bp, decide_eq_false (show ¬ (1 ≤ id ∧ id ≤ 9) by omega)]; simp
  rw [hC];clear hC hR;have d2 : decide (id ≤ 9) = false := decide_eq_false h2;clear h1 h2;go_enter func42, ntmps42
  go_wp2
  go_ret
  exact ⟨rfl, Al _⟩
 have d2 : decide (id ≤ 9) = true := decide_eq_true h2;by_cases h3 : 1 ≤ L.length
 rotate_left
 ·
  have hC : R = false := by rw [hR]; simp only [Bp, decide_eq_false (show ¬ (1 ≤ L.length ∧ L.length ≤ 4) by omega)]; simp
  rw [hC];clear hC hR;have d3 : decide (1 ≤ (L.length : Int)) = false := decide_eq_false (by omega);clear h3;go_enter func42, ntmps42
  go_wp2
  go_ret
  exact ⟨rfl, Al _⟩
 have d3 : decide (1 ≤ (L.length : Int)) = true := decide_eq_true (by omega);by_cases h4 : L.length ≤ 4
 rotate_left
 ·
  have hC : R = false := by rw [hR]; simp only [Bp, decide_eq_false (show ¬ (1 ≤ L.length ∧ L.length ≤ 4) by omega)]; simp
  rw [hC];clear hC hR;have d4 : decide ((L.length : Int) ≤ 4) = false := decide_eq_false (by omega);clear h4;go_enter func42, ntmps42
  go_wp2
  go_ret
  exact ⟨rfl, Al _⟩
 have d4 : decide ((L.length : Int) ≤ 4) = true := decide_eq_true (by omega);have hC : R = L.all Ai := by rw [hR]; simp only [Bp, decide_eq_true (show 1 ≤ id ∧ id ≤ 9 from ⟨h1, h2⟩), decide_eq_true (show 1 ≤ L.length ∧ L.length ≤ 4 from ⟨h3, h4⟩)]; simp
 clear hR;obtain ⟨y, hy, B0⟩ := AI w (Obj.cells #[ji id, .slice ad L.length cap] 42);go_enter func42, ntmps42
 go_wp2_with fail
 go_at_call 89
 rw [← hy];clear hy;refine (LU ad cap L y (hv.below B0 hB) hl).mono ?_;rintro e w1 ⟨rfl, k1⟩;have B1 := AA B0 k1;rw [← hC];clear hC;cases R
 ·
  go_wp2
  go_ret
  exact ⟨rfl, B1⟩
 go_wp2
 go_ret
 exact ⟨rfl, B1⟩
theorem FC (id : Int) (ad : Option Addr) (cap : Nat) (L : List Pt) (w : World) (hv : AH AJ w ad L) (hl : L.length ≤ 1048576) :
  Calls prog 44 #[.agg #[ji id, .slice ad L.length cap]] w fun e w' => e = .returned (.bool (Bp id L)) ∧ Bw w w' := by
 have hB := hv.lt AK (by omega);obtain ⟨y, hy, B0⟩ := AI w (Obj.cells #[ji id, .slice ad L.length cap] 42);have A0 : Ab y w.heap.size id (.slice ad L.length cap) := by rw [hy]; exact Ab.new w _ _ _
 have S0 := A0.lt;have hv := hv.below B0 hB;have hB := hv.lt AK (by omega);obtain ⟨R, hR⟩ := AB (Bp id L);rw [← hR];replace hR : Hid _ := hR;go_enter func44, ntmps44
 go_wp2
 rw [← hy];clear hy;go_loopw [3] (fun i wr => ∃ k : Nat, i = .int .i64 (k : Int) ∧ k ≤ L.length ∧ Hid (∀ j, j < k → Ai (L.getD j Pt.nil) = true) ∧ Below y.heap.size y wr) (fun i _ => L.length - (intOf i).toNat)
 case atStart => exact ⟨0, rfl, Nat.zero_le _, fun j hj => absurd hj (by omega), Below.refl _ _⟩
 case round =>
  obtain ⟨k, rfl, hk, hF, hb⟩ := hrel;obtain ⟨a0, a1⟩ := A0.below hb S0;by_cases hlt : k < L.length
  ·
   obtain ⟨b, off, rfl, _⟩ := hv (by omega);obtain ⟨h, hh⟩ : ∃ h, L.getD k Pt.nil = h := ⟨_, rfl⟩;have hck : BL wr b (off + k * 11) h := by
    rw [← hh];exact BV ((hv.below hb hB).at_ AK Pt.nil hlt)
   replace hck := hck.all;replace hh : Hid _ := hh;clear hB hv;go_wp2_with fail
   go_at_call 91
   refine (GA h wr).mono ?_;rintro e w3 ⟨rfl, k3⟩;have b3 := AA hb k3;by_cases hq : Ai h = true
   ·
    rw [hq];go_wp2
    go_roundw
    case rel =>
     refine ⟨k + 1, by go_num, by omega, fun j hj => ?_, b3⟩;by_cases e : j = k
     ·
      rw [e, hh.out]; exact hq
     exact hF.out j (by omega)
    case measure => simp [intOf]; omega
   have hq' : Ai h = false := by simpa using hq
   rw [hq'];have hC : Hid (R = false) := by
    unfold Hid; rw [hR.out, Bp, H1 hlt (by rw [hh.out]; exact hq')]; simp
   clear hR;go_wp2
   go_ret
   exact ⟨by rw [hC.out]; rfl, AA B0 b3⟩
  obtain rfl : k = L.length := by omega
  have hP := Hm hF.out;have B1 := AA B0 hb;by_cases h1 : 1 ≤ id ∧ id ≤ 9
  ·
   have d1 : decide (1 ≤ id ∧ id ≤ 9) = true := decide_eq_true h1;have hC : Hid (R = decide (1 ≤ (L.length : Int) ∧ (L.length : Int) ≤ 4)) := by
    unfold Hid; rw [hR.out, Bp, hP, d1, Bool.true_and, Bool.and_true]; exact decide_eq_decide.2 (by omega)
   clear hR hP h1;go_wp2_with fail
   go_at_call 65
   refine (BM id 1 9 wr).mono ?_;rintro e w4 ⟨rfl, rfl⟩;rw [d1];go_wp2_with fail
   go_at_call 65
   refine (BM L.length 1 4 w4).mono ?_;rintro e w5 ⟨rfl, rfl⟩;rw [← hC.out];go_wp2
   go_ret
   exact ⟨rfl, B1⟩
  have d1 : decide (1 ≤ id ∧ id ≤ 9) = false := decide_eq_false h1;have hC : Hid (R = false) := by
   unfold Hid; rw [hR.out, Bp, d1]; simp
  clear hR hP h1;go_wp2_with fail
  go_at_call 65
  refine (BM id 1 9 wr).mono ?_;rintro e w4 ⟨rfl, rfl⟩;rw [d1];go_wp2
  go_ret
  exact ⟨by rw [hC.out]; rfl, B1⟩
theorem GZ (id : Int) (ad : Option Addr) (cap : Nat) (L : List Pt) (p : Int) (w : World) (hl : L.length ≤ 1048576) :
  Calls prog 134 #[.agg #[ji id, .slice ad L.length cap], ji p] w fun e w' => e = .returned (.bool (decide (0 ≤ p ∧ p < (L.length : Int)))) ∧ Bw w w' := by
 by_cases h1 : 0 ≤ p
 focus
  have d1 : decide (0 ≤ p) = true := decide_eq_true h1;have e : decide (0 ≤ p ∧ p < (L.length : Int)) = decide (p < (L.length : Int)) := by simp [h1]
  rw [e];clear e h1;generalize hd : decide (p < (L.length : Int)) = o
  cases o
  rotate_left;rotate_left
 rotate_left 2;focus
  have d1 : decide (0 ≤ p) = false := decide_eq_false h1;have e : decide (0 ≤ p ∧ p < (L.length : Int)) = false := by simp; omega
  rw [e];clear e h1
 rotate_left;all_goals
  go_enter func134, ntmps134
  go_wp2
  go_ret
  exact ⟨rfl, Al _⟩
theorem H7 {id : Int} {x : Pt} (h : Ai x = true) : (x.up && BO id x) = BO id x := by
 cases hh : x.has
 ·
  simp [BO, hh]
 rw [(Eg h hh).1]; rfl
theorem F8 (id : Int) (x : Pt) (w : World) : Calls prog 205 #[ji id, .agg #[.bool x.up, .bool x.has, ji x.r, ji x.c, ji x.b, ji x.p, ji x.h, ji x.l, ji x.ro, ji x.wa, .bool x.op]] w fun e w' => e = .returned (.bool (x.up && BO id x)) ∧ Bw w w' := by
 obtain ⟨up, has, r, c, b, p, h, l, ro, wa, op⟩ := x;dsimp only
 cases up
 ·
  rw [show (false && BO id ⟨false, has, r, c, b, p, h, l, ro, wa, op⟩) = false from rfl];go_enter func205, ntmps205
  go_wp2
  go_ret
  exact ⟨rfl, Al _⟩
 cases has
 ·
  rw [show (true && BO id ⟨true, false, r, c, b, p, h, l, ro, wa, op⟩) = false from rfl];go_enter func205, ntmps205
  go_wp2
  go_ret
  exact ⟨rfl, Al _⟩
 have e : (true && BO id ⟨true, true, r, c, b, p, h, l, ro, wa, op⟩) = (!(b == id) && (decide (r < id) && (decide (c < 20) && decide (h < 8)))) := by simp [BO]
 rw [e];clear e;by_cases h1 : b = id
 ·
  subst h1;rw [show (!(b == b) && (decide (r < b) && (decide (c < 20) && decide (h < 8)))) = false by simp];go_enter func205, ntmps205
  go_wp2
  go_ret
  exact ⟨rfl, Al _⟩
 have d1 : (b == id) = false := by simpa using h1
 have d1' : (b != id) = true := by simpa using h1
 rw [d1];clear h1;by_cases h2 : r < id
 rotate_left
 ·
  have d2 : decide (r < id) = false := decide_eq_false h2;rw [d2];clear h2;rw [show (!false && (false && (decide (c < 20) && decide (h < 8)))) = false from rfl];go_enter func205, ntmps205
  go_wp2
  go_ret
  exact ⟨rfl, Al _⟩
 have d2 : decide (r < id) = true := decide_eq_true h2;rw [d2];clear h2;by_cases h3 : c < 20
 rotate_left
 ·
  have d3 : decide (c < 20) = false := decide_eq_false h3;rw [d3];clear h3;rw [show (!false && (true && (false && decide (h < 8)))) = false from rfl];go_enter func205, ntmps205
  go_wp2
  go_ret
  exact ⟨rfl, Al _⟩
 have d3 : decide (c < 20) = true := decide_eq_true h3;rw [d3];clear h3;by_cases h4 : h < 8
 ·
  have d4 : decide (h < 8) = true := decide_eq_true h4;rw [d4];clear h4;rw [show (!false && (true && (true && true))) = true from rfl];go_enter func205, ntmps205
  go_wp2
  go_ret
  exact ⟨rfl, Al _⟩
 have d4 : decide (h < 8) = false := decide_eq_false h4;rw [d4];clear h4;rw [show (!false && (true && (true && false))) = false from rfl];go_enter func205, ntmps205
 go_wp2
 go_ret
 exact ⟨rfl, Al _⟩
end Go.Proofs.YthgcbihhdbpbdaaGreat
