import Derived.Test.YtjmnaeeknomiaaaGreatDoorRKWBxd26
namespace Go.Proofs.YtjmnaeeknomiaaaGreatDoor
open Go.ChangeShapes Go.WideShapes Go.ChangeAt Go.RowKit
open Go.ChangeMaps (open_string shut_string)
set_option linter.unusedVariables false
set_option maxRecDepth 100000
set_option maxHeartbeats 32000000
set_option linter.unusedSimpArgs false
open Go.Proofs.Tryz
attribute [local go_sem] ji ja
def EU (r : Rg) : Prop := (-2 ≤ r.ep ∧ r.ep ≤ 200000) ∧ (-2 ≤ r.ow ∧ r.ow ≤ 5) ∧ (-2 ≤ r.pa ∧ r.pa ≤ 200000)
def LF (w : World) (cb : Nat) (ad : Option Addr) (len cap : Nat) (f : Nat → Int) (e : Ending) (w' : World) : Prop :=
 ∃ r : Rg, e = .returned (.agg #[ji r.ep, ji r.ow, ji r.pa]) ∧ EU r ∧ At w' cb ad len cap f ∧ w.grownBy w' (some cb)
theorem H2 {x : AF} (h : BA x.p = true) : EU x.rg := by
 obtain ⟨_, h2, _⟩ := Eb.1 h;have h2 : CB x.rg = true := h2;unfold CB at h2;simp only [Bool.and_eq_true, decide_eq_true_eq] at h2;unfold EU;simp only [CK, decide_eq_true_eq] at h2;omega
theorem Ba.sv0 {w : World} {q : Nat} {r : Rg} (h : Ba w q r) (z : Int) : Ba (w.setCell (ja q 0) (ji z)) q ⟨z, r.ow, r.pa⟩ :=
 ⟨⟨Al h.at_.c0, (AB (by decide)).trans h.at_.c1, (AB (by decide)).trans h.at_.c2⟩, fun i => by rw [World.frozen?_setCell]; exact h.fr i⟩
theorem Ba.sv1 {w : World} {q : Nat} {r : Rg} (h : Ba w q r) (z : Int) : Ba (w.setCell (ja q 1) (ji z)) q ⟨r.ep, z, r.pa⟩ :=
 ⟨⟨(AB (by decide)).trans h.at_.c0, Al h.at_.c1, (AB (by decide)).trans h.at_.c2⟩, fun i => by rw [World.frozen?_setCell]; exact h.fr i⟩
theorem Ba.sv2 {w : World} {q : Nat} {r : Rg} (h : Ba w q r) (z : Int) : Ba (w.setCell (ja q 2) (ji z)) q ⟨r.ep, r.ow, z⟩ :=
 ⟨⟨(AB (by decide)).trans h.at_.c0, (AB (by decide)).trans h.at_.c1, Al h.at_.c2⟩, fun i => by rw [World.frozen?_setCell]; exact h.fr i⟩
theorem Ka {cb : Nat} {ad : Option Addr} {len cap : Nat} {f : Nat → Int} (w : World) (hs : At w cb ad len cap f) (hcb : cb < w.heap.size) : Calls prog 104 #[.pointer (some (ja cb 0))] w fun e w' => LF w cb ad len cap f e w' := by
 have hfld : ∀ (i_ p_ r0_ r1_ r2_ : Int) (t_ n_ g_ l_ s_ : Value) (w_ : World), (Instr.field 63 (.agg #[ji i_, ji p_, ji r0_, ji r1_, ji r2_, t_, n_, g_, l_, s_]) 2).run prog w_ = .ok (.agg #[ji r0_, ji r1_, ji r2_]) w_ := fun _ _ _ _ _ _ _ _ _ _ _ => rfl
 obtain ⟨y0, hy0⟩ := AC (w.alloc (Obj.cells #[ji 0, ji 0, ji 0] 57));have D : DV w cb ad len cap y0 := by rw [hy0]; exact (DV.start hs).alloc _
 have R : Ba y0 w.heap.size (⟨0, 0, 0⟩ : Rg) := by rw [hy0]; exact ⟨Am.new w _ (⟨0, 0, 0⟩ : Rg), fun i => by simp [go_sem]⟩
 have z0 := R.lt;go_enter func104, ntmps104
 go_wp2_with fail
 go_at_call 103
 rw [← hy0];clear hy0;refine (Gr y0 (D.src hs) D.cur.lt).mono ?_;rintro e y1 ⟨x, rfl, hxo, _, s_, g1⟩;have D := D.step s_ g1;have R := R.keep (g1.block _ R.lt (by simp; omega));have z1 := g1.size;clear s_ g1;have lo := H2 hxo;clear hxo;obtain ⟨r, hr⟩ := AC x.rg;rw [← hr] at lo;obtain ⟨y2, hy2, k2⟩ := AM y1 (Obj.cells #[ji x.rg.ep, ji x.rg.ow, ji x.rg.pa] 57);have N : Ba y2 y1.heap.size r := by rw [hy2, hr]; exact ⟨Am.new y1 _ x.rg, fun i => by simp [go_sem]⟩
 have D := D.later8 k2;have R := R.below k2 R.lt;have z2 := N.lt;replace hr : Hid _ := hr;go_upto_region 2 with fail
 rw [← hy2];clear hy2 k2 hfld;obtain ⟨Q, hQ⟩ := AC y1.heap.size;rw [← hQ] at N z1 z2 ⊢;clear hQ;go_wp2_with fail
 go_at_call 56
 refine (BD (D.src hs) 10 (by decide) (by decide)).mono ?_;rintro e y3 ⟨v, rfl, v0, v1, s_, g3⟩;have z3 := g3.size;have D := D.step s_ g3;have R := R.keep (g3.block _ R.lt (by simp; omega));have N := N.keep (g3.block _ N.lt (by simp; omega));clear s_ g3;by_cases h0 : v = 0
 focus
  subst h0;obtain ⟨y4, hy4, kn⟩ := AM y3 (Obj.cells #[ji 0, ji 1, ji 100000, ji 100001] 3);have hg : ∀ i, i < 4 → ∃ z, y4.cell? (ja y3.heap.size i) = some (ji z) ∧ (0 ≤ z ∧ z ≤ 100001) := by
   intro i h_;rw [hy4];rcases (by omega : i = 0 ∨ i = 1 ∨ i = 2 ∨ i = 3) with rfl | rfl | rfl | rfl
   ·
    exact ⟨0, by simp [go_sem], by omega⟩
   ·
    exact ⟨1, by simp [go_sem], by omega⟩
   ·
    exact ⟨100000, by simp [go_sem], by omega⟩
   ·
    exact ⟨100001, by simp [go_sem], by omega⟩
  have D := D.later8 kn;have R := R.below kn R.lt;have N := N.below kn N.lt;have hne : y3.heap.size ≠ cb := by omega
  go_wp2_with fail
  go_at_call 47
  rw [← hy4];have z4 := kn.size;clear hy4 kn;generalize y3.heap.size = E at hg hne ⊢
  refine (Dq (D.src hs) (fun z => 0 ≤ z ∧ z ≤ 100001) E 4 4 hne (by decide) (by decide) hg).mono ?_;rintro e y5 ⟨u, rfl, hu_, s_, g5⟩;have z5 := g5.size;clear hg;have D := D.step s_ g5;have R := R.keep (g5.block _ R.lt (by simp; omega));have N := N.keep (g5.block _ N.lt (by simp; omega));clear s_ g5;obtain ⟨mm, hmm⟩ : ∃ q_ : Rg, q_ = ⟨u, r.ow, r.pa⟩ := ⟨_, rfl⟩;have lo6 : EU mm := by rw [hmm]; unfold EU at lo ⊢; dsimp only; omega
  obtain ⟨y6, hy6⟩ := AC (y5.setCell (ja Q 0) (ji u));have N6 : Ba y6 Q mm := by rw [hy6, hmm]; exact N.sv0 u
  have kp : ∀ k, k ≠ Q → y6.heap[k]? = y5.heap[k]? := fun k hk => by rw [hy6]; exact AE hk
 rotate_left;focus
  by_cases h1 : v = 1
  focus
   subst h1;go_wp2_with fail
   go_at_call 56
   refine (BD (D.src hs) 4 (by decide) (by decide)).mono ?_;rintro e y4 ⟨u, rfl, u0, u1, s_, g4⟩;have z4 := g4.size;have D := D.step s_ g4;have R := R.keep (g4.block _ R.lt (by simp; omega));have N := N.keep (g4.block _ N.lt (by simp; omega));clear s_ g4;have hwu : IntKind.i64.wrap (u - 1) = u - 1 := by rw [IntKind.wrap_i64]; omega
   obtain ⟨mm, hmm⟩ : ∃ q_ : Rg, q_ = ⟨r.ep, u - 1, r.pa⟩ := ⟨_, rfl⟩;have lo6 : EU mm := by rw [hmm]; unfold EU at lo ⊢; dsimp only; omega
   obtain ⟨y6, hy6⟩ := AC (y4.setCell (ja Q 1) (ji (u - 1)));have N6 : Ba y6 Q mm := by rw [hy6, hmm]; exact N.sv1 (u - 1)
   have kp : ∀ k, k ≠ Q → y6.heap[k]? = y4.heap[k]? := fun k hk => by rw [hy6]; exact AE hk
  rotate_left;focus
   by_cases h2 : v = 2
   focus
    subst h2;obtain ⟨y4, hy4, kn⟩ := AM y3 (Obj.cells #[ji (-1), ji 0, ji 1, ji 2] 3);have hg : ∀ i, i < 4 → ∃ z, y4.cell? (ja y3.heap.size i) = some (ji z) ∧ (-1 ≤ z ∧ z ≤ 2) := by
     intro i h_;rw [hy4];rcases (by omega : i = 0 ∨ i = 1 ∨ i = 2 ∨ i = 3) with rfl | rfl | rfl | rfl
     ·
      exact ⟨-1, by simp [go_sem], by omega⟩
     ·
      exact ⟨0, by simp [go_sem], by omega⟩
     ·
      exact ⟨1, by simp [go_sem], by omega⟩
     ·
      exact ⟨2, by simp [go_sem], by omega⟩
    have D := D.later8 kn;have R := R.below kn R.lt;have N := N.below kn N.lt;have hne : y3.heap.size ≠ cb := by omega
    go_wp2_with fail
    go_at_call 47
    rw [← hy4];have z4 := kn.size;clear hy4 kn;generalize y3.heap.size = E at hg hne ⊢
    refine (Dq (D.src hs) (fun z => -1 ≤ z ∧ z ≤ 2) E 4 4 hne (by decide) (by decide) hg).mono ?_;rintro e y5 ⟨u, rfl, hu_, s_, g5⟩;have z5 := g5.size;clear hg;have D := D.step s_ g5;have R := R.keep (g5.block _ R.lt (by simp; omega));have N := N.keep (g5.block _ N.lt (by simp; omega));clear s_ g5;obtain ⟨mm, hmm⟩ : ∃ q_ : Rg, q_ = ⟨r.ep, r.ow, u⟩ := ⟨_, rfl⟩;have lo6 : EU mm := by rw [hmm]; unfold EU at lo ⊢; dsimp only; omega
    obtain ⟨y6, hy6⟩ := AC (y5.setCell (ja Q 2) (ji u));have N6 : Ba y6 Q mm := by rw [hy6, hmm]; exact N.sv2 u
    have kp : ∀ k, k ≠ Q → y6.heap[k]? = y5.heap[k]? := fun k hk => by rw [hy6]; exact AE hk
   rotate_left
   ·
    have d0 : (v == 0) = false := by rw [beq_eq_false_iff_ne]; exact h0
    have d1 : (v == 1) = false := by rw [beq_eq_false_iff_ne]; exact h1
    have d2 : (v == 2) = false := by rw [beq_eq_false_iff_ne]; exact h2
    clear h0 h1 h2;have D9 : DV w cb ad len cap (((y3.setCell (ja w.heap.size 0) (ji r.ep)).setCell (ja w.heap.size 1) (ji r.ow)).setCell (ja w.heap.size 2) (ji r.pa)) := ((D.set (Nat.le_refl _) hcb _).set (Nat.le_refl _) hcb _).set (Nat.le_refl _) hcb _;have sZ := D9.src hs;have gZ := D9.gr;obtain ⟨⟨c0, c1, c2⟩, cf⟩ := R;have g0 := cf 0;have g1 := cf 1;have g2 := cf 2;obtain ⟨⟨n0, n1, n2⟩, nf⟩ := N;clear cf nf D D9;go_wp2
    refine bodyPost_ret (v := .agg #[ji r.ep, ji r.ow, ji r.pa]) (by simp [results, results104, go_sem, *]) rfl ⟨r, rfl, lo, sZ, gZ⟩
  rotate_left
 rotate_left 2;all_goals
  have R := R.keep (kp _ (by omega));have D : DV w cb ad len cap y6 := by rw [hy6]; exact D.set (by omega) hcb _
  obtain ⟨⟨n0, n1, n2⟩, nf⟩ := N;have g0 := nf 0;have g1 := nf 1;have g2 := nf 2;clear nf lo;go_upto_region 9 with fail
  rw [← hy6];clear hy6 hmm kp n0 n1 n2 g0 g1 g2;have N := N6;clear N6;have D9 : DV w cb ad len cap (((y6.setCell (ja w.heap.size 0) (ji mm.ep)).setCell (ja w.heap.size 1) (ji mm.ow)).setCell (ja w.heap.size 2) (ji mm.pa)) := ((D.set (Nat.le_refl _) hcb _).set (Nat.le_refl _) hcb _).set (Nat.le_refl _) hcb _;have sZ := D9.src hs;have gZ := D9.gr;obtain ⟨⟨c0, c1, c2⟩, cf⟩ := R;have g0 := cf 0;have g1 := cf 1;have g2 := cf 2;obtain ⟨⟨n0, n1, n2⟩, nf⟩ := N;clear cf nf D D9;go_wp2
  refine bodyPost_ret (v := .agg #[ji mm.ep, ji mm.ow, ji mm.pa]) (by simp [results, results104, go_sem, *]) rfl ⟨mm, rfl, lo6, sZ, gZ⟩
end Go.Proofs.YtjmnaeeknomiaaaGreatDoor
