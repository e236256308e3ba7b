import Derived.Test.YthgcbihhdbpbdaaGreatRKWIn1
namespace Go.Proofs.YthgcbihhdbpbdaaGreat
open Go.ChangeShapes Go.WideShapes Go.ChangeAt Go.RowKit
open Go.ChangeMaps (open_string shut_string)
set_option linter.unusedVariables false
set_option maxRecDepth 100000
set_option maxHeartbeats 32000000
set_option linter.unusedSimpArgs false
open Go.Proofs.Tryz
attribute [local go_sem] ji ja
structure Mi where
 up : Bool
 li : Int
 ep : Int
 lg : List Ik
 sd : Int
 ac : Int
 al : Int
abbrev mc (m : Mi) (a : Option Addr) (c : Nat) : Array Value := #[.bool m.up, ji m.li, ji m.ep, .slice a m.lg.length c, ji m.sd, ji m.ac, ji m.al]
attribute [local go_sem] mc
def Be (v : Int) : Bool := decide (0 ≤ v ∧ v ≤ 100000)
def Co (X : List Ik) : Bool := X.all Av && decide (X.length ≤ 60)
def Aq (m : Mi) : Bool :=
 Be m.li && (Be m.ep && (Be m.al && (Co m.lg && (decide (0 ≤ m.sd ∧ m.sd ≤ (m.lg.length : Int)) && (decide (0 ≤ m.ac ∧ m.ac ≤ (m.lg.length : Int)) && (m.up || (decide (m.ep = 0) && (decide (m.lg.length = 0) && decide (m.al = 0)))))))))
def Cn (m : Mi) (x : Ik) : Mi := ⟨m.up, m.li, m.ep, m.lg ++ [x], m.sd, m.ac, m.al⟩
def DR (m : Mi) (x : Ik) : Bool := m.up && Aq (Cn m x)
def AQ (m : Mi) (x : Ik) : Mi := if DR m x then Cn m x else m
theorem Hn {m : Mi} {x : Ik} (h : DR m x = false) : AQ m x = m := by unfold AQ; rw [h]; rfl
def Dk (m : Mi) (p : Int) : Bool :=
 m.up && (decide (0 < m.ep) && (decide (m.sd < (m.lg.length : Int)) && (decide (p = 0) || (decide (m.al = p) && decide (m.sd < m.ac)))))
theorem JD {m : Mi} {p : Int} (h : Dk m p = true) : m.sd < (m.lg.length : Int) ∧ (p ≠ 0 → m.sd < m.ac) := by
 unfold Dk at h;simp only [Bool.and_eq_true, Bool.or_eq_true, decide_eq_true_eq] at h;refine ⟨h.2.2.1, fun hp => ?_⟩;rcases h.2.2.2 with e | e
 ·
  exact absurd e hp
 exact e.2
end Go.Proofs.YthgcbihhdbpbdaaGreat
namespace Go.Proofs.YthgcbihhdbpbdaaGreat
open Go.ChangeShapes Go.WideShapes Go.ChangeAt Go.RowKit
open Go.ChangeMaps (open_string shut_string)
set_option linter.unusedVariables false
set_option maxRecDepth 100000
set_option maxHeartbeats 32000000
set_option linter.unusedSimpArgs false
open Go.Proofs.Tryz
structure Rg where
 ep : Int
 ow : Int
 pa : Int
def BR (r : Rg) : Bool := decide (1 ≤ r.ep ∧ r.ep ≤ 100000) && (decide (0 ≤ r.ow ∧ r.ow ≤ 1) && Be r.pa)
def Cz (r : Rg) (s : Int) (m : Mi) : Bool := BR r && (Aq m && (m.up && (decide (s = r.ow) && decide (m.ep = r.ep))))
theorem JF {r : Rg} {s : Int} {m : Mi} : Cz r s m = true ↔ BR r = true ∧ Aq m = true ∧ m.up = true ∧ s = r.ow ∧ m.ep = r.ep := by
 unfold Cz;simp only [Bool.and_eq_true, decide_eq_true_eq]
def DM (r : Rg) (s : Int) (m : Mi) : Bool :=
 BR r && (Aq m && (m.up && (decide (0 ≤ s ∧ s ≤ 1) && (decide (s ≠ r.ow) && (decide (0 < m.li) && decide (m.li = r.pa))))))
def CP (r : Rg) (s : Int) : Rg := ⟨r.ep + 1, s, 0⟩
def Bc (r : Rg) (m : Mi) : Mi := ⟨m.up, m.li, r.ep + 1, m.lg, m.sd, 0, 0⟩
def CT (r : Rg) (s : Int) (m : Mi) : Bool := DM r s m && (BR (CP r s) && Aq (Bc r m))
def DQ (r : Rg) (s : Int) (m : Mi) (p : Int) : Bool := Cz r s m && (decide (p = 0) || (decide (p = m.al) && decide (m.ac = (m.lg.length : Int))))
def DW (r : Rg) (s : Int) (m : Mi) (p : Int) : Rg := if DQ r s m p then ⟨r.ep, r.ow, p⟩ else r
theorem E1 {m : Mi} : Aq m = true ↔ Be m.li = true ∧ Be m.ep = true ∧ Be m.al = true ∧ Co m.lg = true ∧ (0 ≤ m.sd ∧ m.sd ≤ (m.lg.length : Int)) ∧ (0 ≤ m.ac ∧ m.ac ≤ (m.lg.length : Int)) ∧ (m.up = true ∨ m.ep = 0 ∧ m.lg.length = 0 ∧ m.al = 0) := by
 unfold Aq;simp only [Bool.and_eq_true, Bool.or_eq_true, decide_eq_true_eq]
theorem Ja {r : Rg} : BR r = true ↔ (1 ≤ r.ep ∧ r.ep ≤ 100000) ∧ (0 ≤ r.ow ∧ r.ow ≤ 1) ∧ Be r.pa = true := by
 unfold BR;simp only [Bool.and_eq_true, decide_eq_true_eq]
theorem GR {r : Rg} {s : Int} {m : Mi} {p : Int} (h : DQ r s m p = false) : DW r s m p = r := by unfold DW; rw [h]; rfl
attribute [local go_sem] ji ja pc
def Bu (up : Bool) : Pt := if up then ⟨true, false, 0, 0, 0, 0, 0, 0, 3, 0, false⟩ else Pt.nil
theorem Hl {x : Pt} (h : Ai x = true) : BG x = if ((Az x).ro = 1 ∨ (Az x).ro = 2) ∧ 0 < (Az x).wa then { Az x with wa := (Az x).wa - 1, op := ((Az x).wa - 1 == 0) } else Az x := by
 obtain ⟨h1, h2, h3, h4, _⟩ := GS.1 h;obtain ⟨k1, k2, k3, k4⟩ := GF x;unfold BG Dy;generalize Az x = y at *
 obtain ⟨up, has, r, c, b, p, hh, l, ro, wa, op⟩ := y;dsimp only at *
 by_cases hc : (ro = 1 ∨ ro = 2) ∧ 0 < wa
 ·
  rw [if_pos hc, if_pos hc];congr 1
  unfold BC;rw [Bool.eq_iff_iff];simp only [decide_eq_true_eq, beq_iff_eq];omega
 rw [if_neg hc, if_neg hc];congr 1
 rw [k4, h3, k2, k3]
theorem JW (x : Pt) (w : World) (hok : Ai x = true) : Calls prog 158 #[.agg #[.bool x.up, .bool x.has, ji x.r, ji x.c, ji x.b, ji x.p, ji x.h, ji x.l, ji x.ro, ji x.wa, .bool x.op]] w fun e w' => e = .returned (.agg #[.bool (BG x).up, .bool (BG x).has, ji (BG x).r, ji (BG x).c, ji (BG x).b, ji (BG x).p, ji (BG x).h, ji (BG x).l, ji (BG x).ro, ji (BG x).wa, .bool (BG x).op]) ∧ Bw w w' := by
 obtain ⟨y, hy⟩ := AB ((w.alloc (Obj.cells (pc x) 70)).alloc (Obj.cells #[.bool false, .bool false, ji 0, ji 0, ji 0, ji 0, ji 0, ji 0, ji 0, ji 0, .bool false] 70));have B0 : Bw w y := by rw [hy]; exact ((Below.refl _ _).alloc (Nat.le_refl _) _).alloc (by simp) _
 have P0 : Ae y w.heap.size x := by rw [hy]; refine ⟨?_, fun i => ?_⟩; constructor <;> simp [go_sem]; simp [go_sem]
 have R0 : Ae y (w.heap.size + 1) Pt.nil := by rw [hy]; refine ⟨?_, fun i => ?_⟩; constructor <;> simp [go_sem, Pt.nil]; simp [go_sem]
 have S0 := R0.lt;obtain ⟨t, ht⟩ : ∃ t, BG x = t := ⟨_, rfl⟩;rw [ht];obtain ⟨z, hz⟩ : ∃ z, Az x = z := ⟨_, rfl⟩;have hti : Hid (t = if (z.ro = 1 ∨ z.ro = 2) ∧ 0 < z.wa then { z with wa := z.wa - 1, op := (z.wa - 1 == 0) } else z) := by unfold Hid; rw [← ht, Hl hok, hz]
 have hw4 : z.wa ≤ 4 ∧ 0 ≤ z.wa := by
  have := (GS.1 hok).2.2.2.1;have e := (GF x).2.2.1;rw [hz] at e;omega
 have htr : Hid (t = { z with wa := Dy z, op := BC z.ro (Dy z) }) := by unfold Hid; rw [← ht, ← hz]; rfl
 obtain ⟨hw4, hw0⟩ := hw4;replace hz : Hid _ := hz;clear ht hok;go_enter func158, ntmps158
 go_wp2_with fail
 go_at_call 184
 rw [← hy];clear hy;refine (LP x y).mono ?_;rintro e w1 ⟨rfl, k1⟩;rw [hz.out];have B1 := AA B0 k1;have P1 := P0.below k1 (by omega);have R1 := R0.below k1 (by omega);have S1 := R1.lt;clear hz k1 P0 R0 B0 S0;obtain ⟨y2, hy2⟩ := AB (((((((((((w1.setCell (ja w.heap.size 0) (.bool z.up)).setCell (ja w.heap.size 1) (.bool z.has)).setCell (ja w.heap.size 2) (ji z.r)).setCell (ja w.heap.size 3) (ji z.c)).setCell (ja w.heap.size 4) (ji z.b)).setCell (ja w.heap.size 5) (ji z.p)).setCell (ja w.heap.size 6) (ji z.h)).setCell (ja w.heap.size 7) (ji z.l)).setCell (ja w.heap.size 8) (ji z.ro)).setCell (ja w.heap.size 9) (ji z.wa)).setCell (ja w.heap.size 10) (.bool z.op));have P2 : Ae y2 w.heap.size z := by rw [hy2]; exact (((((((((((P1.set0 z.up).set1 z.has).set2 z.r).set3 z.c).set4 z.b).set5 z.p).set6 z.h).set7 z.l).set8 z.ro).set9 z.wa).set10 z.op)
 have R2 : Ae y2 (w.heap.size + 1) Pt.nil := by rw [hy2]; exact (((((((((((R1.other (by omega)).other (by omega)).other (by omega)).other (by omega)).other (by omega)).other (by omega)).other (by omega)).other (by omega)).other (by omega)).other (by omega)).other (by omega))
 have B2 : Bw w y2 := by rw [hy2]; exact (((((((((((B1.setCell (p := (ja w.heap.size 0)) (by show _ ≤ w.heap.size; omega) (.bool z.up)).setCell (p := (ja w.heap.size 1)) (by show _ ≤ w.heap.size; omega) (.bool z.has)).setCell (p := (ja w.heap.size 2)) (by show _ ≤ w.heap.size; omega) (ji z.r)).setCell (p := (ja w.heap.size 3)) (by show _ ≤ w.heap.size; omega) (ji z.c)).setCell (p := (ja w.heap.size 4)) (by show _ ≤ w.heap.size; omega) (ji z.b)).setCell (p := (ja w.heap.size 5)) (by show _ ≤ w.heap.size; omega) (ji z.p)).setCell (p := (ja w.heap.size 6)) (by show _ ≤ w.heap.size; omega) (ji z.h)).setCell (p := (ja w.heap.size 7)) (by show _ ≤ w.heap.size; omega) (ji z.l)).setCell (p := (ja w.heap.size 8)) (by show _ ≤ w.heap.size; omega) (ji z.ro)).setCell (p := (ja w.heap.size 9)) (by show _ ≤ w.heap.size; omega) (ji z.wa)).setCell (p := (ja w.heap.size 10)) (by show _ ≤ w.heap.size; omega) (.bool z.op))
 have P1' := P1;obtain ⟨⟨p0, p1, p2, p3, p4, p5, p6, p7, p8, p9, p10⟩, pf⟩ := P1;go_upto_region 2 with fail
 rw [← hy2];clear hy2 p0 p1 p2 p3 p4 p5 p6 p7 p8 p9 p10 pf P1' R1 B1;obtain ⟨⟨p0, p1, p2, p3, p4, p5, p6, p7, p8, p9, p10⟩, pf⟩ := P2;have P2 : Ae y2 w.heap.size z := ⟨⟨p0, p1, p2, p3, p4, p5, p6, p7, p8, p9, p10⟩, pf⟩;by_cases h1 : z.ro = 1
 focus
  have d1 : (z.ro == 1) = true := by simpa using h1
  by_cases h0 : 0 < z.wa
  focus
   have d0 : decide (0 < z.wa) = true := decide_eq_true h0;have hcc : Hid ((z.ro = 1 ∨ z.ro = 2) ∧ 0 < z.wa) := ⟨.inl h1, h0⟩;have L2 := 0
  rotate_left;focus
   have d0 : decide (0 < z.wa) = false := decide_eq_false h0;have hcc : Hid (¬ ((z.ro = 1 ∨ z.ro = 2) ∧ 0 < z.wa)) := fun e => h0 e.2
   replace h1 : Hid _ := h1;replace h0 : Hid _ := h0;have L1 := 0
  rotate_left
 rotate_left 2;have d1 : (z.ro == 1) = false := by simpa using h1
 by_cases h2 : z.ro = 2
 focus
  have d2 : (z.ro == 2) = true := by simpa using h2
  by_cases h0 : 0 < z.wa
  focus
   have d0 : decide (0 < z.wa) = true := decide_eq_true h0;have hcc : Hid ((z.ro = 1 ∨ z.ro = 2) ∧ 0 < z.wa) := ⟨.inr h2, h0⟩;replace h2 : Hid _ := h2;have L2 := 0
  rotate_left;focus
   have d0 : decide (0 < z.wa) = false := decide_eq_false h0;have hcc : Hid (¬ ((z.ro = 1 ∨ z.ro = 2) ∧ 0 < z.wa)) := fun e => h0 e.2
   replace h2 : Hid _ := h2;replace h1 : Hid _ := h1;replace h0 : Hid _ := h0;have L1 := 0
  rotate_left
 rotate_left 2;have d2 : (z.ro == 2) = false := by simpa using h2
 have hcc : Hid (¬ ((z.ro = 1 ∨ z.ro = 2) ∧ 0 < z.wa)) := fun e => by rcases e.1 with q | q; exact h1 q; exact h2 q
 replace h1 : Hid _ := h1;replace h2 : Hid _ := h2;have L1 := 0;all_goals first
  | clear L1
    have hT : Hid (t = z) := by unfold Hid; rw [hti.out, if_neg hcc.out]
    go_upto_region 5 with fail
    have RZ := (((((((((((R2.set0 z.up).set1 z.has).set2 z.r).set3 z.c).set4 z.b).set5 z.p).set6 z.h).set7 z.l).set8 z.ro).set9 z.wa).set10 z.op);have BZ := (((((((((((B2.setCell (p := ⟨w.heap.size + 1, 0, none⟩) (by show _ ≤ w.heap.size + 1; omega) (.bool z.up)).setCell (p := ⟨w.heap.size + 1, 1, none⟩) (by show _ ≤ w.heap.size + 1; omega) (.bool z.has)).setCell (p := ⟨w.heap.size + 1, 2, none⟩) (by show _ ≤ w.heap.size + 1; omega) (ji z.r)).setCell (p := ⟨w.heap.size + 1, 3, none⟩) (by show _ ≤ w.heap.size + 1; omega) (ji z.c)).setCell (p := ⟨w.heap.size + 1, 4, none⟩) (by show _ ≤ w.heap.size + 1; omega) (ji z.b)).setCell (p := ⟨w.heap.size + 1, 5, none⟩) (by show _ ≤ w.heap.size + 1; omega) (ji z.p)).setCell (p := ⟨w.heap.size + 1, 6, none⟩) (by show _ ≤ w.heap.size + 1; omega) (ji z.h)).setCell (p := ⟨w.heap.size + 1, 7, none⟩) (by show _ ≤ w.heap.size + 1; omega) (ji z.l)).setCell (p := ⟨w.heap.size + 1, 8, none⟩) (by show _ ≤ w.heap.size + 1; omega) (ji z.ro)).setCell (p := ⟨w.heap.size + 1, 9, none⟩) (by show _ ≤ w.heap.size + 1; omega) (ji z.wa)).setCell (p := ⟨w.heap.size + 1, 10, none⟩) (by show _ ≤ w.heap.size + 1; omega) (.bool z.op));obtain ⟨⟨z0, z1, z2, z3, z4, z5, z6, z7, z8, z9, z10⟩, _⟩ := RZ;obtain ⟨⟨r0, r1, r2, r3, r4, r5, r6, r7, r8, r9, r10⟩, rf⟩ := R2;go_wp2
    refine bodyPost_ret (v := .agg (pc z)) (by simp [results, results158, go_sem, *]) rfl ⟨by rw [hT.out], BZ⟩
  | clear L2
    replace h1 : Hid _ := h1;have P3 := (P2.set9 (z.wa - 1)).set10 (z.wa - 1 == 0);have B3 := (B2.setCell (p := (ja w.heap.size 9)) (Nat.le_refl w.heap.size) (ji (z.wa - 1))).setCell (p := (ja w.heap.size 10)) (Nat.le_refl w.heap.size) (.bool (z.wa - 1 == 0));have R3 := (R2.other (q' := w.heap.size) (i := 9) (v := ji (z.wa - 1)) (by omega)).other (q' := w.heap.size) (i := 10) (v := .bool (z.wa - 1 == 0)) (by omega);obtain ⟨y3, hy3⟩ := AB ((y2.setCell (ja w.heap.size 9) (ji (z.wa - 1))).setCell (ja w.heap.size 10) (.bool (z.wa - 1 == 0)));rw [← hy3] at P3 B3 R3;have q9 : (y2.setCell (ja w.heap.size 9) (ji (z.wa - 1))).cell? (ja w.heap.size 9) = some (ji (z.wa - 1)) := Aj p9;have hT : Hid (t = { z with wa := z.wa - 1, op := (z.wa - 1 == 0) }) := by unfold Hid; rw [hti.out, if_pos hcc.out]
    go_upto_region 5 with fail
    rw [← hy3];clear hy3 p0 p1 p2 p3 p4 p5 p6 p7 p8 p9 p10 pf P2 B2 R2 q9;obtain ⟨v, hv⟩ := AB ({ z with wa := z.wa - 1, op := (z.wa - 1 == 0) } : Pt);have P3 : Ae y3 w.heap.size v := by rw [hv]; exact P3
    rw [← hv] at hT;clear hv;obtain ⟨⟨p0, p1, p2, p3, p4, p5, p6, p7, p8, p9, p10⟩, pf⟩ := P3;have RZ := (((((((((((R3.set0 v.up).set1 v.has).set2 v.r).set3 v.c).set4 v.b).set5 v.p).set6 v.h).set7 v.l).set8 v.ro).set9 v.wa).set10 v.op);have BZ := (((((((((((B3.setCell (p := ⟨w.heap.size + 1, 0, none⟩) (by show _ ≤ w.heap.size + 1; omega) (.bool v.up)).setCell (p := ⟨w.heap.size + 1, 1, none⟩) (by show _ ≤ w.heap.size + 1; omega) (.bool v.has)).setCell (p := ⟨w.heap.size + 1, 2, none⟩) (by show _ ≤ w.heap.size + 1; omega) (ji v.r)).setCell (p := ⟨w.heap.size + 1, 3, none⟩) (by show _ ≤ w.heap.size + 1; omega) (ji v.c)).setCell (p := ⟨w.heap.size + 1, 4, none⟩) (by show _ ≤ w.heap.size + 1; omega) (ji v.b)).setCell (p := ⟨w.heap.size + 1, 5, none⟩) (by show _ ≤ w.heap.size + 1; omega) (ji v.p)).setCell (p := ⟨w.heap.size + 1, 6, none⟩) (by show _ ≤ w.heap.size + 1; omega) (ji v.h)).setCell (p := ⟨w.heap.size + 1, 7, none⟩) (by show _ ≤ w.heap.size + 1; omega) (ji v.l)).setCell (p := ⟨w.heap.size + 1, 8, none⟩) (by show _ ≤ w.heap.size + 1; omega) (ji v.ro)).setCell (p := ⟨w.heap.size + 1, 9, none⟩) (by show _ ≤ w.heap.size + 1; omega) (ji v.wa)).setCell (p := ⟨w.heap.size + 1, 10, none⟩) (by show _ ≤ w.heap.size + 1; omega) (.bool v.op));obtain ⟨⟨z0, z1, z2, z3, z4, z5, z6, z7, z8, z9, z10⟩, _⟩ := RZ;obtain ⟨⟨r0, r1, r2, r3, r4, r5, r6, r7, r8, r9, r10⟩, rf⟩ := R3;go_wp2
    refine bodyPost_ret (v := .agg (pc v)) (by simp [results, results158, go_sem, *]) rfl ⟨by rw [hT.out], BZ⟩
theorem Jh (up : Bool) (w : World) : Calls prog 159 #[.bool up] w fun e w' => e = .returned (.agg #[.bool (Bu up).up, .bool (Bu up).has, ji (Bu up).r, ji (Bu up).c, ji (Bu up).b, ji (Bu up).p, ji (Bu up).h, ji (Bu up).l, ji (Bu up).ro, ji (Bu up).wa, .bool (Bu up).op]) ∧ Bw w w' := by
 cases up
 ·
  have B0 := (Below.refl w.heap.size w).alloc (Nat.le_refl _) (Obj.cells #[.bool false, .bool false, ji 0, ji 0, ji 0, ji 0, ji 0, ji 0, ji 0, ji 0, .bool false] 70);go_enter func159, ntmps159
  go_wp2
  refine bodyPost_ret (v := .agg #[.bool false, .bool false, ji 0, ji 0, ji 0, ji 0, ji 0, ji 0, ji 0, ji 0, .bool false]) (by simp [results, results159, go_sem, *]) rfl ⟨rfl, B0⟩
 have B0 := (Below.refl w.heap.size w).alloc (Nat.le_refl _) (Obj.cells #[.bool true, .bool false, ji 0, ji 0, ji 0, ji 0, ji 0, ji 0, ji 3, ji 0, .bool false] 70);go_enter func159, ntmps159
 go_wp2
 refine bodyPost_ret (v := .agg #[.bool true, .bool false, ji 0, ji 0, ji 0, ji 0, ji 0, ji 0, ji 3, ji 0, .bool false]) (by simp [results, results159, go_sem, *]) rfl ⟨rfl, B0⟩
def Ik.nil : Ik := ⟨0, 0, 0, 0, 0, 0, 0, false⟩
def AS (x : Ik) : List Value := [ji x.k, ji x.q, ji x.r, ji x.c, ji x.b, ji x.p, ji x.h, .bool x.up]
theorem Aa (x : Ik) : (AS x).length = 8 := rfl
theorem Ec (L : List Ik) : ∀ u ∈ Ac AS L, u.oneCell' = true := by
 induction L with
 | nil => intro u h; cases h
 | cons x L ih =>
  intro u h;simp only [Ac, AS, List.mem_append, List.mem_cons, List.not_mem_nil, or_false] at h;rcases h with (rfl | rfl | rfl | rfl | rfl | rfl | rfl | rfl) | h
  ·
   rfl
  ·
   rfl
  ·
   rfl
  ·
   rfl
  ·
   rfl
  ·
   rfl
  ·
   rfl
  ·
   rfl
  exact ih u h
structure Bl (w : World) (b o : Nat) (x : Ik) : Prop where
 c0 : w.cell? (ja b o) = some (ji x.k)
 c1 : w.cell? ⟨b, o + 1, none⟩ = some (ji x.q)
 c2 : w.cell? ⟨b, o + 2, none⟩ = some (ji x.r)
 c3 : w.cell? ⟨b, o + 3, none⟩ = some (ji x.c)
 c4 : w.cell? ⟨b, o + 4, none⟩ = some (ji x.b)
 c5 : w.cell? ⟨b, o + 5, none⟩ = some (ji x.p)
 c6 : w.cell? ⟨b, o + 6, none⟩ = some (ji x.h)
 c7 : w.cell? ⟨b, o + 7, none⟩ = some (.bool x.up)
theorem Bl.all {w : World} {b o : Nat} {x : Ik} (h : Bl w b o x) : w.cell? (ja b o) = some (ji x.k) ∧ w.cell? ⟨b, o + 1, none⟩ = some (ji x.q) ∧ w.cell? ⟨b, o + 2, none⟩ = some (ji x.r) ∧ w.cell? ⟨b, o + 3, none⟩ = some (ji x.c) ∧ w.cell? ⟨b, o + 4, none⟩ = some (ji x.b) ∧ w.cell? ⟨b, o + 5, none⟩ = some (ji x.p) ∧ w.cell? ⟨b, o + 6, none⟩ = some (ji x.h) ∧ w.cell? ⟨b, o + 7, none⟩ = some (.bool x.up) := ⟨h.c0, h.c1, h.c2, h.c3, h.c4, h.c5, h.c6, h.c7⟩
theorem DT {w : World} {b o : Nat} {x : Ik} (h : ∀ j v, (AS x)[j]? = some v → w.cell? ⟨b, o + j, none⟩ = some v) : Bl w b o x := ⟨h 0 _ rfl, h 1 _ rfl, h 2 _ rfl, h 3 _ rfl, h 4 _ rfl, h 5 _ rfl, h 6 _ rfl, h 7 _ rfl⟩
theorem Bl.below {w w' : World} {q o n : Nat} {x : Ik} (h : Bl w q o x) (k : Below n w w') (hq : q < n) : Bl w' q o x :=
 ⟨(World.cell?_of_block (a := (ja q o)) (k.block q hq)).trans h.c0, (World.cell?_of_block (a := ⟨q, o + 1, none⟩) (k.block q hq)).trans h.c1, (World.cell?_of_block (a := ⟨q, o + 2, none⟩) (k.block q hq)).trans h.c2, (World.cell?_of_block (a := ⟨q, o + 3, none⟩) (k.block q hq)).trans h.c3, (World.cell?_of_block (a := ⟨q, o + 4, none⟩) (k.block q hq)).trans h.c4, (World.cell?_of_block (a := ⟨q, o + 5, none⟩) (k.block q hq)).trans h.c5, (World.cell?_of_block (a := ⟨q, o + 6, none⟩) (k.block q hq)).trans h.c6, (World.cell?_of_block (a := ⟨q, o + 7, none⟩) (k.block q hq)).trans h.c7⟩
def Bj (x : Bool) : List Value := [.bool x]
theorem DE (x : Bool) : (Bj x).length = 1 := rfl
theorem HT (L : List Bool) : ∀ u ∈ Ac Bj L, u.oneCell' = true := by
 induction L with
 | nil => intro u h; cases h
 | cons x L ih =>
  intro u h;simp only [Ac, Bj, List.mem_append, List.mem_cons, List.not_mem_nil, or_false] at h;rcases h with rfl | h
  ·
   rfl
  exact ih u h
theorem Gs : (prog.info? 4).map (fun i => (i.zero, i.size, i.bytes)) = some (some (.bool false), 1, 1) := by kernel_rfl
theorem AH.oneB (w : World) (t : TypeId) (x : Bool) : AH Bj (w.alloc (Obj.cells #[.bool x] t)) (some (ja w.heap.size 0)) [x] := by
 intro _;refine ⟨w.heap.size, 0, rfl, fun j v hv => ?_⟩;match j, hv with
 | 0, hv => cases hv; simp [go_sem]
 | j + 1, hv => simp [Ac, Bj] at hv
def BK (L : List Pt) : List Bool := L.map Pt.op
theorem Ed (L : List Pt) : (BK L).length = L.length := List.length_map ..
theorem I6 (L : List Pt) {k : Nat} (hk : k < L.length) : (BK L).getD k false = (L.getD k Pt.nil).op := by
 unfold BK; simp [List.getD, hk]
theorem Ii (L : List Pt) {k : Nat} (hk : k < L.length) : BK (L.take (k + 1)) = BK (L.take k) ++ [(L.getD k Pt.nil).op] := by
 unfold BK;rw [List.take_add_one, List.map_append];have e : L[k]?.toList = [L.getD k Pt.nil] := by simp [List.getD, hk]
 rw [e]; rfl
structure Ag (w : World) (q : Nat) (m : Mi) (v : Value) : Prop where
 c0 : w.cell? (ja q 0) = some (.bool m.up)
 c1 : w.cell? (ja q 1) = some (ji m.li)
 c2 : w.cell? (ja q 2) = some (ji m.ep)
 c3 : w.cell? (ja q 3) = some (v)
 c4 : w.cell? (ja q 4) = some (ji m.sd)
 c5 : w.cell? (ja q 5) = some (ji m.ac)
 c6 : w.cell? (ja q 6) = some (ji m.al)
theorem Ag.all {w : World} {q : Nat} {m : Mi} {v : Value} (h : Ag w q m v) : w.cell? (ja q 0) = some (.bool m.up) ∧ w.cell? (ja q 1) = some (ji m.li) ∧ w.cell? (ja q 2) = some (ji m.ep) ∧ w.cell? (ja q 3) = some (v) ∧ w.cell? (ja q 4) = some (ji m.sd) ∧ w.cell? (ja q 5) = some (ji m.ac) ∧ w.cell? (ja q 6) = some (ji m.al) := ⟨h.c0, h.c1, h.c2, h.c3, h.c4, h.c5, h.c6⟩
theorem Ag.keep {w w' : World} {q : Nat} {m : Mi} {v : Value} (h : Ag w q m v) (k : w'.heap[q]? = w.heap[q]?) : Ag w' q m v :=
 ⟨(World.cell?_of_block (a := (ja q 0)) k).trans h.c0, (World.cell?_of_block (a := (ja q 1)) k).trans h.c1, (World.cell?_of_block (a := (ja q 2)) k).trans h.c2, (World.cell?_of_block (a := (ja q 3)) k).trans h.c3, (World.cell?_of_block (a := (ja q 4)) k).trans h.c4, (World.cell?_of_block (a := (ja q 5)) k).trans h.c5, (World.cell?_of_block (a := (ja q 6)) k).trans h.c6⟩
theorem Ag.below {w w' : World} {q n : Nat} {m : Mi} {v : Value} (h : Ag w q m v) (k : Below n w w') (hq : q < n) : Ag w' q m v := h.keep (k.block q hq)
theorem Ag.lt {w : World} {q : Nat} {m : Mi} {v : Value} (h : Ag w q m v) : q < w.heap.size := World.block_lt_of_cell? w _ h.c0
theorem Ag.new (w : World) (t : TypeId) (m : Mi) (v : Value) : Ag (w.alloc (Obj.cells #[.bool m.up, ji m.li, ji m.ep, v, ji m.sd, ji m.ac, ji m.al] t)) w.heap.size m v := by
 refine ⟨?_, ?_, ?_, ?_, ?_, ?_, ?_⟩ <;> simp [go_sem]
structure AV (w : World) (q : Nat) (m : Mi) (v : Value) : Prop where
 c0 : w.cell? (ja q 0) = some (.bool m.up)
 c1 : w.cell? (ja q 1) = some (ji m.li)
 c2 : w.cell? (ja q 2) = some (ji m.ep)
 c3 : w.cell? (ja q 3) = some (v)
 c4 : w.cell? (ja q 4) = some (ji m.sd)
 c5 : w.cell? (ja q 5) = some (ji m.ac)
 c6 : w.cell? (ja q 6) = some (ji m.al)
 fr : ∀ i, w.frozen? (ja q i) = false
theorem AV.all {w : World} {q : Nat} {m : Mi} {v : Value} (h : AV w q m v) : w.cell? (ja q 0) = some (.bool m.up) ∧ w.cell? (ja q 1) = some (ji m.li) ∧ w.cell? (ja q 2) = some (ji m.ep) ∧ w.cell? (ja q 3) = some (v) ∧ w.cell? (ja q 4) = some (ji m.sd) ∧ w.cell? (ja q 5) = some (ji m.ac) ∧ w.cell? (ja q 6) = some (ji m.al) := ⟨h.c0, h.c1, h.c2, h.c3, h.c4, h.c5, h.c6⟩
theorem AV.keep {w w' : World} {q : Nat} {m : Mi} {v : Value} (h : AV w q m v) (k : w'.heap[q]? = w.heap[q]?) : AV w' q m v :=
 ⟨(World.cell?_of_block (a := (ja q 0)) k).trans h.c0, (World.cell?_of_block (a := (ja q 1)) k).trans h.c1, (World.cell?_of_block (a := (ja q 2)) k).trans h.c2, (World.cell?_of_block (a := (ja q 3)) k).trans h.c3, (World.cell?_of_block (a := (ja q 4)) k).trans h.c4, (World.cell?_of_block (a := (ja q 5)) k).trans h.c5, (World.cell?_of_block (a := (ja q 6)) k).trans h.c6, fun i => (World.frozen?_of_block (a := (ja q i)) k).trans (h.fr i)⟩
theorem AV.below {w w' : World} {q n : Nat} {m : Mi} {v : Value} (h : AV w q m v) (k : Below n w w') (hq : q < n) : AV w' q m v := h.keep (k.block q hq)
theorem AV.lt {w : World} {q : Nat} {m : Mi} {v : Value} (h : AV w q m v) : q < w.heap.size := World.block_lt_of_cell? w _ h.c0
theorem AV.new (w : World) (t : TypeId) (m : Mi) (v : Value) : AV (w.alloc (Obj.cells #[.bool m.up, ji m.li, ji m.ep, v, ji m.sd, ji m.ac, ji m.al] t)) w.heap.size m v := by
 refine ⟨?_, ?_, ?_, ?_, ?_, ?_, ?_, ?_⟩ <;> simp [go_sem]
structure CO (w : World) (q : Nat) (m : Mi) (v : Value) : Prop where
 c0 : w.cell? (ja q 0) = some (v)
 c1 : w.cell? (ja q 1) = some (.bool m.up)
 c2 : w.cell? (ja q 2) = some (ji m.li)
 c3 : w.cell? (ja q 3) = some (ji m.ep)
 c4 : w.cell? (ja q 4) = some (ji m.sd)
 c5 : w.cell? (ja q 5) = some (ji m.ac)
 c6 : w.cell? (ja q 6) = some (ji m.al)
 fr : ∀ i, w.frozen? (ja q i) = false
theorem CO.all {w : World} {q : Nat} {m : Mi} {v : Value} (h : CO w q m v) : w.cell? (ja q 0) = some (v) ∧ w.cell? (ja q 1) = some (.bool m.up) ∧ w.cell? (ja q 2) = some (ji m.li) ∧ w.cell? (ja q 3) = some (ji m.ep) ∧ w.cell? (ja q 4) = some (ji m.sd) ∧ w.cell? (ja q 5) = some (ji m.ac) ∧ w.cell? (ja q 6) = some (ji m.al) := ⟨h.c0, h.c1, h.c2, h.c3, h.c4, h.c5, h.c6⟩
theorem CO.keep {w w' : World} {q : Nat} {m : Mi} {v : Value} (h : CO w q m v) (k : w'.heap[q]? = w.heap[q]?) : CO w' q m v :=
 ⟨(World.cell?_of_block (a := (ja q 0)) k).trans h.c0, (World.cell?_of_block (a := (ja q 1)) k).trans h.c1, (World.cell?_of_block (a := (ja q 2)) k).trans h.c2, (World.cell?_of_block (a := (ja q 3)) k).trans h.c3, (World.cell?_of_block (a := (ja q 4)) k).trans h.c4, (World.cell?_of_block (a := (ja q 5)) k).trans h.c5, (World.cell?_of_block (a := (ja q 6)) k).trans h.c6, fun i => (World.frozen?_of_block (a := (ja q i)) k).trans (h.fr i)⟩
theorem CO.below {w w' : World} {q n : Nat} {m : Mi} {v : Value} (h : CO w q m v) (k : Below n w w') (hq : q < n) : CO w' q m v := h.keep (k.block q hq)
theorem CO.lt {w : World} {q : Nat} {m : Mi} {v : Value} (h : CO w q m v) : q < w.heap.size := World.block_lt_of_cell? w _ h.c0
theorem CO.new (w : World) (t : TypeId) (m : Mi) (v : Value) : CO (w.alloc (Obj.cells #[v, .bool m.up, ji m.li, ji m.ep, ji m.sd, ji m.ac, ji m.al] t)) w.heap.size m v := by
 refine ⟨?_, ?_, ?_, ?_, ?_, ?_, ?_, ?_⟩ <;> simp [go_sem]
theorem AV.at_ {w : World} {q : Nat} {m : Mi} {v : Value} (h : AV w q m v) : Ag w q m v := ⟨h.c0, h.c1, h.c2, h.c3, h.c4, h.c5, h.c6⟩
theorem AV.log {w : World} {q : Nat} {m : Mi} {v : Value} (h : AV w q m v) (v' : Value) : AV (w.setCell (ja q 3) v') q m v' :=
 ⟨(AC (by decide)).trans h.c0, (AC (by decide)).trans h.c1, (AC (by decide)).trans h.c2, Aj h.c3, (AC (by decide)).trans h.c4, (AC (by decide)).trans h.c5, (AC (by decide)).trans h.c6, fun i => by rw [World.frozen?_setCell]; exact h.fr i⟩
theorem CO.log {w : World} {q : Nat} {m : Mi} {v : Value} (h : CO w q m v) (v' : Value) : CO (w.setCell (ja q 0) v') q m v' :=
 ⟨Aj h.c0, (AC (by decide)).trans h.c1, (AC (by decide)).trans h.c2, (AC (by decide)).trans h.c3, (AC (by decide)).trans h.c4, (AC (by decide)).trans h.c5, (AC (by decide)).trans h.c6, fun i => by rw [World.frozen?_setCell]; exact h.fr i⟩
theorem AV.lg {w : World} {q : Nat} {m : Mi} {v : Value} (L : List Ik) (h : AV w q m v) : AV w q { m with lg := L } v := ⟨h.c0, h.c1, h.c2, h.c3, h.c4, h.c5, h.c6, h.fr⟩
theorem F5 (x : Ik) (w : World) : Calls prog 82 #[.agg #[ji x.k, ji x.q, ji x.r, ji x.c, ji x.b, ji x.p, ji x.h, .bool x.up]] w fun e w' => e = .returned (.bool (Av x)) ∧ Bw w w' := by
 obtain ⟨k, q, r, c, b, p, h, up⟩ := x;dsimp only
 obtain ⟨R, hR⟩ := AB (Av ⟨k, q, r, c, b, p, h, up⟩);rw [← hR];by_cases h1 : k = 1
 ·
  subst h1;have hR1 : Hid (R = (decide (0 ≤ q ∧ q ≤ 3) && (Af r c b p && (decide (0 ≤ h ∧ h ≤ 8) && !up)))) := hR;clear hR;have B0 := Al (w := w) (Obj.cells #[ji 1, ji q, ji r, ji c, ji b, ji p, ji h, .bool up] 64);obtain ⟨y, hy⟩ := AB (w.alloc (Obj.cells #[ji 1, ji q, ji r, ji c, ji b, ji p, ji h, .bool up] 64));rw [← hy] at B0;have A0 : A8 y w.heap.size ⟨1, q, r, c, b, p, h, up⟩ := by rw [hy]; exact A8.new w _ ⟨1, q, r, c, b, p, h, up⟩
  have S0 := A0.lt;go_enter func82, ntmps82
  go_wp2_with fail
  go_at_call 65
  rw [← hy];clear hy;refine (BM q 0 3 y).mono ?_;rintro e y1 ⟨rfl, rfl⟩;obtain ⟨a0, a1, a2, a3, a4, a5, a6, a7⟩ := A0;have A0 : A8 y1 w.heap.size ⟨1, q, r, c, b, p, h, up⟩ := ⟨a0, a1, a2, a3, a4, a5, a6, a7⟩;cases hF : decide (0 ≤ q ∧ q ≤ 3) with
  | false =>
   have hN : Hid (R = false) := by unfold Hid; rw [hR1.out, hF]; rfl
   clear hR1 hF;go_wp2
   go_ret
   exact ⟨by rw [hN.out]; rfl, B0⟩
  | true =>
   have hR2 : Hid (R = (Af r c b p && (decide (0 ≤ h ∧ h ≤ 8) && !up))) := by unfold Hid; rw [hR1.out, hF]; rfl
   clear hR1 hF;go_wp2_with fail
   go_at_call 123
   refine (Gy r c b p y1).mono ?_;rintro e y2 ⟨rfl, k2⟩;have B2 := AA B0 k2;have A2 := A0.below k2 S0;clear a0 a1 a2 a3 a4 a5 a6 a7 A0 k2;replace A2 := A2.all;cases hF : Af r c b p with
   | false =>
    have hN : Hid (R = false) := by unfold Hid; rw [hR2.out, hF]; rfl
    clear hR2 hF;go_wp2
    go_ret
    exact ⟨by rw [hN.out]; rfl, B2⟩
   | true =>
    have hR3 : Hid (R = (decide (0 ≤ h ∧ h ≤ 8) && !up)) := by unfold Hid; rw [hR2.out, hF]; rfl
    clear hR2 hF;go_wp2_with fail
    go_at_call 65
    refine (BM h 0 8 y2).mono ?_;rintro e y3 ⟨rfl, rfl⟩;cases hF : decide (0 ≤ h ∧ h ≤ 8) with
    | false =>
     have hN : Hid (R = false) := by unfold Hid; rw [hR3.out, hF]; rfl
     clear hR3 hF;go_wp2
     go_ret
     exact ⟨by rw [hN.out]; rfl, B2⟩
    | true =>
     have hN : Hid (R = !up) := by unfold Hid; rw [hR3.out, hF]; rfl
     clear hR3 hF;go_wp2
     go_ret
     exact ⟨by rw [hN.out]; rfl, B2⟩
 have d1 : (k == 1) = false := by simpa using h1
 by_cases h3 : k = 3
 ·
  subst h3;have hR1 : Hid (R = (decide (0 ≤ q ∧ q ≤ 3) && (decide (r = 0 ∧ c = 0 ∧ b = 0 ∧ p = 0) && (h == 0)))) := hR;clear hR h1 d1;have B0 := Al (w := w) (Obj.cells #[ji 3, ji q, ji r, ji c, ji b, ji p, ji h, .bool up] 64);obtain ⟨y, hy⟩ := AB (w.alloc (Obj.cells #[ji 3, ji q, ji r, ji c, ji b, ji p, ji h, .bool up] 64));rw [← hy] at B0;have A0 : A8 y w.heap.size ⟨3, q, r, c, b, p, h, up⟩ := by rw [hy]; exact A8.new w _ ⟨3, q, r, c, b, p, h, up⟩
  have S0 := A0.lt;go_enter func82, ntmps82
  go_wp2_with fail
  go_at_call 65
  rw [← hy];clear hy;refine (BM q 0 3 y).mono ?_;rintro e y1 ⟨rfl, rfl⟩;replace A0 := A0.all;cases hF : decide (0 ≤ q ∧ q ≤ 3) with
  | false =>
   have hN : Hid (R = false) := by unfold Hid; rw [hR1.out, hF]; rfl
   clear hR1 hF;go_wp2
   go_ret
   exact ⟨by rw [hN.out]; rfl, B0⟩
  | true =>
   have hR2 : Hid (R = (decide (r = 0 ∧ c = 0 ∧ b = 0 ∧ p = 0) && (h == 0))) := by unfold Hid; rw [hR1.out, hF]; rfl
   clear hR1 hF;have eV : ∀ w_ : World, (binOp .eql 62 (.agg #[ji r, ji c, ji b, ji p]) (.agg #[ji 0, ji 0, ji 0, ji 0])).run prog w_ = .ok (.bool (decide (r = 0 ∧ c = 0 ∧ b = 0 ∧ p = 0))) w_ := fun w_ => by
    have := Fd r c b p 0 0 0 0 w_;go_simp
   cases hF : decide (r = 0 ∧ c = 0 ∧ b = 0 ∧ p = 0) with
   | false =>
    have hN : Hid (R = false) := by unfold Hid; rw [hR2.out, hF]; rfl
    rw [hF] at eV;clear hR2 hF;go_wp2
    go_ret
    exact ⟨by rw [hN.out]; rfl, B0⟩
   | true =>
    have hN : Hid (R = (h == 0)) := by unfold Hid; rw [hR2.out, hF]; rfl
    rw [hF] at eV;clear hR2 hF;go_wp2
    go_ret
    exact ⟨by rw [hN.out]; rfl, B0⟩
 have d3 : (k == 3) = false := by simpa using h3
 by_cases h2 : k = 2
 ·
  subst h2;have hN : Hid (R = decide (q = 0 ∧ r = 0 ∧ c = 0 ∧ b = 0 ∧ p = 0 ∧ h = 0 ∧ up = false)) := hR;clear hR h1 d1 h3 d3;have eI : ∀ w_ : World, (binOp .eql 64 (.agg #[ji 2, ji q, ji r, ji c, ji b, ji p, ji h, .bool up]) (.agg #[ji 2, ji 0, ji 0, ji 0, ji 0, ji 0, ji 0, .bool false])).run prog w_ = .ok (.bool R) w_ := fun w_ => by
   rw [hN.out];go_simp
   all_goals ((repeat' split) <;> first | (simp_all; done) | grind)
  clear hN;have B0 := Al (w := w) (Obj.cells #[ji 2, ji q, ji r, ji c, ji b, ji p, ji h, .bool up] 64);obtain ⟨y, hy⟩ := AB (w.alloc (Obj.cells #[ji 2, ji q, ji r, ji c, ji b, ji p, ji h, .bool up] 64));rw [← hy] at B0;have A0 : A8 y w.heap.size ⟨2, q, r, c, b, p, h, up⟩ := by rw [hy]; exact A8.new w _ ⟨2, q, r, c, b, p, h, up⟩
  have S0 := A0.lt;go_enter func82, ntmps82
  go_upto_region 7 with fail
  rw [← hy];clear hy;replace A0 := A0.all;go_wp2
  go_ret
  exact ⟨rfl, B0⟩
 have d2 : (k == 2) = false := by simpa using h2
 have hN : Hid (R = false) := by unfold Hid; rw [hR]; unfold Av; rw [if_neg h1, if_neg h3, if_neg h2]
 clear hR h1 h2 h3;have B0 := Al (w := w) (Obj.cells #[ji k, ji q, ji r, ji c, ji b, ji p, ji h, .bool up] 64);obtain ⟨y, hy⟩ := AB (w.alloc (Obj.cells #[ji k, ji q, ji r, ji c, ji b, ji p, ji h, .bool up] 64));rw [← hy] at B0;have A0 : A8 y w.heap.size ⟨k, q, r, c, b, p, h, up⟩ := by rw [hy]; exact A8.new w _ ⟨k, q, r, c, b, p, h, up⟩
 have S0 := A0.lt;go_enter func82, ntmps82
 go_wp2
 go_ret
 rw [← hy];exact ⟨by rw [hN.out]; rfl, B0⟩
end Go.Proofs.YthgcbihhdbpbdaaGreat
namespace Go.Proofs.YthgcbihhdbpbdaaGreat
open Go.ChangeShapes Go.WideShapes Go.ChangeAt Go.RowKit
open Go.ChangeMaps (open_string shut_string)
set_option linter.unusedVariables false
set_option maxRecDepth 100000
set_option maxHeartbeats 32000000
set_option linter.unusedSimpArgs false
open Go.Proofs.Tryz
attribute [local go_sem] ji ja
theorem Eo : (prog.info? 64).map (fun i => (i.zero, i.size, i.bytes)) = some (some (.agg #[ji 0, ji 0, ji 0, ji 0, ji 0, ji 0, ji 0, .bool false]), 8, 64) := by kernel_rfl
attribute [local go_sem] mc
theorem Ez (n : Int) (w : World) : Calls prog 92 #[ji n] w fun e w' => e = .returned (.bool (Be n)) ∧ w' = w := by
 obtain ⟨R, hR⟩ := AB (Be n);rw [← hR];replace hR : Hid _ := hR;by_cases h1 : 0 ≤ n
 ·
  have d1 : decide (0 ≤ n) = true := decide_eq_true h1;have hN : Hid (R = decide (n ≤ 100000)) := by unfold Hid; rw [hR.out]; unfold Be; by_cases h2 : n ≤ 100000 <;> simp [h1, h2]
  clear hR;go_enter func92, ntmps92
  go_wp2
  go_ret
  exact ⟨by rw [hN.out]; rfl, rfl⟩
 have d1 : decide (0 ≤ n) = false := decide_eq_false h1;have hN : Hid (R = false) := by unfold Hid; rw [hR.out]; unfold Be; simp [h1]
 clear hR;go_enter func92, ntmps92
 go_wp2
 go_ret
 exact ⟨by rw [hN.out]; rfl, rfl⟩
theorem Kb (ad : Option Addr) (cap : Nat) (L : List Ik) (w : World) (hv : AH AS w ad L) (hl : L.length ≤ 1048577) :
  Calls prog 102 #[.slice ad L.length cap] w fun e w' => ∃ ad' cap', e = .returned (.slice ad' L.length cap') ∧ AD AS 8 64 w.heap.size w' (.slice ad' L.length cap') L ∧ Bw w w' := by
 obtain ⟨i1, hj, hy0, hy1, hy2⟩ := info_parts Eo;cases ad with
 | none =>
  obtain rfl := hv.none_nil;have hEq : ∀ (y : World) (c : Nat), (binOp .eql 31 (.slice none 0 c) (.slice none 0 0)).run prog y = .ok (.bool true) y := fun y c => Go.Lib.run_eql_slice_nil y 31 64 none 0 c 0 0 underlying31
  simp only [List.length_nil];go_enter func102, ntmps102
  go_wp2
  go_ret
  exact ⟨_, _, rfl, AD.nil, Below.refl _ _⟩
 | some a =>
  have hB := hv.lt Aa (by omega);have B0 := Al (w := w) (Obj.cells #[] 64);have hv1 : AH AS (w.alloc (Obj.cells #[] 64)) (some a) L := hv.below B0 hB;have hEq : ∀ (y : World), (binOp .eql 31 (.slice (some a) L.length cap) (.slice none 0 0)).run prog y = .ok (.bool false) y := fun y => Go.Lib.run_eql_slice_nil y 31 64 (some a) L.length cap 0 0 underlying31
  go_enter func102, ntmps102
  go_wp2_with (first | (at_builtin; refine DX Aa Ec rfl _ _ 31 rfl w.heap.size 64 i1 (.agg #[ji 0, ji 0, ji 0, ji 0, ji 0, ji 0, ji 0, .bool false]) 64 underlying31 hj hy0 hy1 hy2 rfl (by decide) (by decide) _ ([] : List Ik) rfl (AD.empty w) (some a) cap L rfl (fun e => by cases e) hv1 ?z0 ?z1 ?_) | go_in)
  case z0 => simp; omega
  case z1 => simp
  intro vZ wZ hownZ hgrowZ _;have BZ : Bw w wZ := B0.grown hgrowZ (by simp) (fun j e => ((AD.empty w : AD AS 8 64 _ _ _ _).lt j e).1);replace hownZ : AD AS 8 64 w.heap.size wZ vZ L := hownZ;obtain ⟨adZ, capZ, rfl⟩ := hownZ.open_;clear hgrowZ B0 hv1;go_wp2
  go_ret
  exact ⟨_, _, rfl, hownZ, BZ⟩
theorem LB (ad : Option Addr) (cap : Nat) (L : List Ik) (w : World) (hv : AH AS w ad L) (hl : L.length ≤ 1048577) :
  Calls prog 132 #[.slice ad L.length cap] w fun e w' => ∃ a c, e = .returned (.agg #[.slice a L.length c]) ∧ AD AS 8 64 w.heap.size w' (.slice a L.length c) L ∧ Bw w w' := by
 have hB := hv.lt Aa (by omega);obtain ⟨y, hy, B0⟩ := AI w (Obj.cells #[.slice none 0 0] 159);have c0 : y.cell? (ja w.heap.size 0) = some (.slice none 0 0) := by rw [hy]; simp [go_sem]
 have f0 : y.frozen? (ja w.heap.size 0) = false := by rw [hy]; simp [go_sem]
 have S0 := World.block_lt_of_cell? _ _ c0;go_enter func132, ntmps132
 go_wp2_with fail
 go_at_call 102
 rw [← hy];clear hy;refine (Kb ad cap L y (hv.below B0 hB) hl).mono ?_;rintro e w1 ⟨a1, c1, rfl, O1, k1⟩;have B1 := AA B0 k1;have c0 := (World.cell?_of_block (a := (ja w.heap.size 0)) (k1.block _ S0)).trans c0;have f0 := (World.frozen?_of_block (a := (ja w.heap.size 0)) (k1.block _ S0)).trans f0;have hne : ∀ g, (Value.slice a1 L.length c1).ownBlock = some g → g ≠ w.heap.size := fun g e => by have := (O1.lt g e).1; omega
 have O2 : AD AS 8 64 w.heap.size (w1.setCell (ja w.heap.size 0) (.slice a1 L.length c1)) (.slice a1 L.length c1) L := (O1.base B0.size).keep fun g e => AE (hne g e)
 have B2 := B1.setCell (p := (ja w.heap.size 0)) (Nat.le_refl _) (.slice a1 L.length c1);clear k1 B0 hv hB O1 B1 hne;go_wp2
 refine bodyPost_ret (v := .agg #[.slice a1 L.length c1]) (by simp [results, results132, go_sem, *]) rfl ⟨_, _, rfl, O2, B2⟩
theorem Gl (m : Mi) (ad : Option Addr) (cap : Nat) (w : World) (hv : AH AS w ad m.lg) (hl : m.lg.length ≤ 1048577) :
  Calls prog 98 #[.agg #[.bool m.up, ji m.li, ji m.ep, .slice ad m.lg.length cap, ji m.sd, ji m.ac, ji m.al]] w fun e w' => ∃ q a c, e = .returned (.pointer (some (ja q 0))) ∧ CO w' q m (.slice a m.lg.length c) ∧ AD AS 8 64 w.heap.size w' (.slice a m.lg.length c) m.lg ∧ (∀ g, (Value.slice a m.lg.length c).ownBlock = some g → g < q) ∧ w.heap.size < q ∧ Bw w w' := by
 have hB := hv.lt Aa (by omega);obtain ⟨y, hy, B0⟩ := AI w (Obj.cells (mc m ad cap) 52);have A : Ag y w.heap.size m (.slice ad m.lg.length cap) := by rw [hy]; exact Ag.new w _ _ _
 have S0 := A.lt;have hv1 := hv.below B0 hB;go_enter func98, ntmps98
 go_upto_region 1 with fail
 rw [← hy];clear hy;refine AR (fun Y => Bw y Y) fun u0 hb0 => ?_
 refine tw 0 3 (.pointer (some (ja w.heap.size 3))) ?_;refine tw 1 4 (.slice ad m.lg.length cap) ?_ (hy := by intro Y hSw; have X := (A.below hSw (by omega)).all; go_simp);refine tw 3 6 (.pointer (some (ja w.heap.size 0))) ?_;refine tw 4 7 (.bool m.up) ?_ (hy := by intro Y hSw; have X := (A.below hSw (by omega)).all; go_simp);refine tw 5 8 (.pointer (some (ja w.heap.size 1))) ?_;refine tw 6 9 (ji m.li) ?_ (hy := by intro Y hSw; have X := (A.below hSw (by omega)).all; go_simp);refine tw 7 10 (.pointer (some (ja w.heap.size 2))) ?_;refine tw 8 11 (ji m.ep) ?_ (hy := by intro Y hSw; have X := (A.below hSw (by omega)).all; go_simp);refine tw 9 12 (.pointer (some (ja w.heap.size 4))) ?_;refine tw 10 13 (ji m.sd) ?_ (hy := by intro Y hSw; have X := (A.below hSw (by omega)).all; go_simp);refine tw 11 14 (.pointer (some (ja w.heap.size 5))) ?_;refine tw 12 15 (ji m.ac) ?_ (hy := by intro Y hSw; have X := (A.below hSw (by omega)).all; go_simp);refine tw 13 16 (.pointer (some (ja w.heap.size 6))) ?_;refine tw 14 17 (ji m.al) ?_ (hy := by intro Y hSw; have X := (A.below hSw (by omega)).all; go_simp);refine tw 15 18 (.agg #[.bool m.up, ji m.li, ji m.ep, ji m.sd, ji m.ac, ji m.al]) ?_;refine w1 2 fun Kz hKz => ?_
 go_simp
 go_at_call 132
 refine (LB ad cap m.lg u0 (hv1.below hb0 (hv1.lt Aa (by omega))) hl).mono ?_;rintro e u1 ⟨a1, c1, rfl, O1, kq⟩;have hb1 := AA hb0 kq;clear kq;refine hKz _ _ ⟨hb1, ?_⟩;clear hKz Kz;refine tw 16 19 (.agg #[.slice a1 m.lg.length c1, .bool m.up, ji m.li, ji m.ep, ji m.sd, ji m.ac, ji m.al]) ?_;refine w1 17 fun Kz hKz => ?_
 go_simp
 obtain ⟨u2, hu, kq⟩ := AI u1 (Obj.cells #[.slice a1 m.lg.length c1, .bool m.up, ji m.li, ji m.ep, ji m.sd, ji m.ac, ji m.al] 164);have M2 : CO u2 u1.heap.size m (.slice a1 m.lg.length c1) := by rw [hu]; exact CO.new u1 _ _ _
 have hb2 := AA hb1 kq;have O2 := O1.later kq;have lo := O1.lt;have hb1s := hb1.size;obtain ⟨q, hq⟩ := AB u1.heap.size;rw [← hq] at M2 lo hb1s ⊢;rw [← hu];clear hu kq hq;refine hKz _ _ ⟨hb2, ?_⟩;clear hKz Kz;refine tw 18 2 (.pointer (some (ja q 0))) ?_;refine AM ?_;have hO := O1.lt;go_wp2
 go_ret
 exact ⟨q, a1, c1, rfl, M2, O2.base (Nat.le_trans B0.size hb0.size), fun g e => (lo g e).2, by omega, AA B0 hb2⟩
structure An (w : World) (q : Nat) (r : Rg) : Prop where
 c0 : w.cell? (ja q 0) = some (ji r.ep)
 c1 : w.cell? (ja q 1) = some (ji r.ow)
 c2 : w.cell? (ja q 2) = some (ji r.pa)
theorem An.all {w : World} {q : Nat} {r : Rg} (h : An w q r) : w.cell? (ja q 0) = some (ji r.ep) ∧ w.cell? (ja q 1) = some (ji r.ow) ∧ w.cell? (ja q 2) = some (ji r.pa) := ⟨h.c0, h.c1, h.c2⟩
theorem An.keep {w w' : World} {q : Nat} {r : Rg} (h : An w q r) (k : w'.heap[q]? = w.heap[q]?) : An w' q r :=
 ⟨(World.cell?_of_block (a := (ja q 0)) k).trans h.c0, (World.cell?_of_block (a := (ja q 1)) k).trans h.c1, (World.cell?_of_block (a := (ja q 2)) k).trans h.c2⟩
theorem An.below {w w' : World} {q n : Nat} {r : Rg} (h : An w q r) (k : Below n w w') (hq : q < n) : An w' q r := h.keep (k.block q hq)
theorem An.lt {w : World} {q : Nat} {r : Rg} (h : An w q r) : q < w.heap.size := World.block_lt_of_cell? w _ h.c0
theorem An.new (w : World) (t : TypeId) (r : Rg) : An (w.alloc (Obj.cells #[ji r.ep, ji r.ow, ji r.pa] t)) w.heap.size r := by
 refine ⟨?_, ?_, ?_⟩ <;> simp [go_sem]
structure BJ (w : World) (q : Nat) (r : Rg) : Prop where
 at_ : An w q r
 fr : ∀ i, w.frozen? (ja q i) = false
theorem BJ.keep {w w' : World} {q : Nat} {r : Rg} (h : BJ w q r) (k : w'.heap[q]? = w.heap[q]?) : BJ w' q r :=
 ⟨h.at_.keep k, fun i => (World.frozen?_of_block (a := (ja q i)) k).trans (h.fr i)⟩
theorem BJ.below {w w' : World} {q n : Nat} {r : Rg} (h : BJ w q r) (k : Below n w w') (hq : q < n) : BJ w' q r := h.keep (k.block q hq)
theorem BJ.lt {w : World} {q : Nat} {r : Rg} (h : BJ w q r) : q < w.heap.size := h.at_.lt
theorem BJ.put {w : World} {q : Nat} {r : Rg} (h : BJ w q r) (r' : Rg) : BJ (((w.setCell (ja q 0) (ji r'.ep)).setCell (ja q 1) (ji r'.ow)).setCell (ja q 2) (ji r'.pa)) q r' := by
 obtain ⟨⟨h0, h1, h2⟩, hf⟩ := h;have h0 : (w.setCell (ja q 0) (ji r'.ep)).cell? (ja q 0) = some (ji r'.ep) := Aj h0;have h1 : (w.setCell (ja q 0) (ji r'.ep)).cell? (ja q 1) = _ := (AC (by decide)).trans h1;have h2 : (w.setCell (ja q 0) (ji r'.ep)).cell? (ja q 2) = _ := (AC (by decide)).trans h2;have h0 : ((w.setCell (ja q 0) (ji r'.ep)).setCell (ja q 1) (ji r'.ow)).cell? (ja q 0) = _ := (AC (by decide)).trans h0;have h1 : ((w.setCell (ja q 0) (ji r'.ep)).setCell (ja q 1) (ji r'.ow)).cell? (ja q 1) = some (ji r'.ow) := Aj h1;have h2 : ((w.setCell (ja q 0) (ji r'.ep)).setCell (ja q 1) (ji r'.ow)).cell? (ja q 2) = _ := (AC (by decide)).trans h2;refine ⟨⟨(AC (by decide)).trans h0, (AC (by decide)).trans h1, Aj h2⟩, fun i => ?_⟩;rw [World.frozen?_setCell, World.frozen?_setCell, World.frozen?_setCell]; exact hf i
theorem GT (w : World) (q k : Nat) (r' : Rg) (h : k ≠ q) : (((w.setCell (ja q 0) (ji r'.ep)).setCell (ja q 1) (ji r'.ow)).setCell (ja q 2) (ji r'.pa)).heap[k]? = w.heap[k]? := by
 rw [AE h, AE h, AE h]
theorem FI {a w : World} {q n : Nat} (r' : Rg) (h : Below n a w) (hq : n ≤ q) : Below n a (((w.setCell (ja q 0) (ji r'.ep)).setCell (ja q 1) (ji r'.ow)).setCell (ja q 2) (ji r'.pa)) :=
 ((h.setCell (p := (ja q 0)) hq _).setCell (p := (ja q 1)) hq _).setCell (p := (ja q 2)) hq _
end Go.Proofs.YthgcbihhdbpbdaaGreat
