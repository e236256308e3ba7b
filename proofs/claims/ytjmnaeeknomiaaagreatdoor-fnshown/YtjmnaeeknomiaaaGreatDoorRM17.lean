import Derived.Test.YtjmnaeeknomiaaaGreatDoorRM10
import Derived.Test.YtjmnaeeknomiaaaGreatDoorRM12
namespace Go.Proofs.YtjmnaeeknomiaaaGreatDoor
open Go.ChangeShapes Go.WideShapes Go.ChangeAt Go.RowKit
open Go.ChangeMaps (open_string shut_string)
set_option linter.unusedVariables false
set_option maxRecDepth 100000
set_option maxHeartbeats 32000000
set_option linter.unusedSimpArgs false
open Go.Proofs.Tryz
theorem GM (id n : Int) (w : World) :
  Calls prog 96 #[ji id, ji n] w fun e w' => ∃ ad' cap', e = .returned (.tuple #[.agg #[ji (Bp id n), .slice ad' (Ao id n).length cap'], .bool (Au id n)]) ∧ AA AK 11 47 w.heap.size w' (.slice ad' (Ao id n).length cap') (Ao id n) ∧ Bw w w' := by
 obtain ⟨i0, hi, hz0, hz1, hz2⟩ := info_parts Gs;obtain ⟨y, hy⟩ := AC ((w.alloc (Obj.cells #[ji 0, .slice none 0 0] 51)).alloc (Obj.cells #[ji id, .slice none 0 0] 51));have B0 : Bw w y := by rw [hy]; exact ((Below.refl _ _).alloc (Nat.le_refl _) _).alloc (by simp) _
 have R0 : AR y w.heap.size 0 (.slice none 0 0) := by rw [hy]; refine ⟨?_, fun i => ?_⟩; constructor <;> simp [go_sem]; simp [go_sem]
 have N0 : AR y (w.heap.size + 1) id (.slice none 0 0) := by rw [hy]; refine ⟨?_, fun i => ?_⟩; constructor <;> simp [go_sem]; simp [go_sem]
 have S0 := N0.lt;obtain ⟨IV, hI⟩ := AC (Bp id n);obtain ⟨LV, hM⟩ := AC (Ao id n);obtain ⟨NV, hN⟩ := AC (Au id n);rw [← hI, ← hM, ← hN];obtain ⟨m, hm⟩ : ∃ m : Nat, m = (if n < 5 then n else 5).toNat := ⟨_, rfl⟩;have hm5 : m ≤ 5 := by rw [hm]; split <;> omega
 have hmn : Au id n = Au id (m : Int) := by
  unfold Au;congr 1
  apply decide_eq_decide.2
  rw [hm];split <;> omega
 have hmt : Au id n = true → n.toNat = m := by
  intro h;unfold Au at h;simp only [Bool.and_eq_true, decide_eq_true_eq] at h;rw [hm, if_pos (by omega)]
 obtain ⟨t, ht⟩ : ∃ t : Int, t = (if n < 5 then n else 5) := ⟨_, rfl⟩;have htm : t ≤ (m : Int) ∧ (0 ≤ t → t = (m : Int)) ∧ (t < 0 → m = 0) := by rw [ht, hm]; split <;> omega
 replace ht : Hid _ := ht;replace hI : Hid _ := hI;replace hM : Hid _ := hM;replace hN : Hid _ := hN;replace hmn : Hid _ := hmn;replace hmt : Hid _ := hmt;replace htm : Hid _ := htm;clear hm;go_enter func96, ntmps96
 go_wp2
 rw [← hy];clear hy;go_loopw [7] (fun i wr => ∃ k : Nat, k ≤ m ∧ i = .int .i64 (k : Int) ∧ (∃ adk capk, AA AK 11 47 y.heap.size wr (.slice adk k capk) (List.replicate k Pt.nil) ∧ AR wr (w.heap.size + 1) id (.slice adk k capk)) ∧ AR wr w.heap.size 0 (.slice none 0 0) ∧ Below w.heap.size w wr ∧ y.heap.size ≤ wr.heap.size) (fun i _ => m - (intOf i).toNat)
 case atStart => exact ⟨0, Nat.zero_le _, rfl, ⟨none, 0, AA.nil, N0⟩, R0, B0, Nat.le_refl _⟩
 case round =>
  obtain ⟨k, hk, rfl, ⟨adk, capk, O, N1⟩, R1, B1, S1⟩ := hrel;obtain ⟨⟨n0, n1⟩, nf⟩ := N1;have N1 : AR wr (w.heap.size + 1) id (.slice adk k capk) := ⟨⟨n0, n1⟩, nf⟩;by_cases hlt : (k : Int) < t
  ·
   have dl : decide ((k : Int) < t) = true := decide_eq_true hlt;have hkm : k < m := by have := htm.out; omega
   replace hlt : Hid _ := hlt;go_wp2_with fail
   go_at_call 117
   refine (GR n 5 wr).mono ?_;rintro e w2 ⟨rfl, rfl⟩;rw [← ht.out];have V1 := AI.one w2 47 Pt.nil;have B2 := B1.alloc B1.size (Obj.cells #[.bool false, .bool false, ji 0, ji 0, ji 0, ji 0, ji 0, ji 0, ji 0, ji 0, .bool false] 47);have O2 : AA AK 11 47 y.heap.size (w2.alloc (Obj.cells #[.bool false, .bool false, ji 0, ji 0, ji 0, ji 0, ji 0, ji 0, ji 0, ji 0, .bool false] 47)) (.slice adk k capk) (List.replicate k Pt.nil) := O.later (Ax _);have hcn := O.capn;go_wp2_with (first | (at_builtin; refine En AV Ga rfl _ _ 49 rfl y.heap.size 47 i0 (.agg #[.bool false, .bool false, ji 0, ji 0, ji 0, ji 0, ji 0, ji 0, ji 0, ji 0, .bool false]) 80 underlying49 hi hz0 hz1 hz2 rfl (by decide) (by decide) (.slice adk k capk) (List.replicate k Pt.nil) rfl O2 (some (ja w2.heap.size 0)) 1 [Pt.nil] rfl (fun e => by cases e) V1 ?z0 ?z1 ?_) | go_in)
   case z0 => simp; omega
   case z1 => simp; omega
   intro vZ wZ hownZ hgrowZ _;have hownZ : AA AK 11 47 y.heap.size wZ vZ (List.replicate (k + 1) Pt.nil) := by rw [List.replicate_succ']; exact hownZ
   have ho : ∀ g, (Value.slice adk k capk).ownBlock = some g → y.heap.size ≤ g := fun g e => (O2.lt g e).1
   have BZ : Bw w wZ := B2.grown hgrowZ B2.size (fun g e => by have := ho g e; omega);have NZ : AR wZ (w.heap.size + 1) id (.slice adk k capk) := (N1.below (Ax _) N1.lt).keep (hgrowZ.block _ (by have := N1.lt; simp; omega) (fun e => by have := ho _ e.symm; omega));have RZ : AR wZ w.heap.size 0 (.slice none 0 0) := (R1.below (Ax _) R1.lt).keep (hgrowZ.block _ (by have := R1.lt; simp; omega) (fun e => by have := ho _ e.symm; omega));have SZ : y.heap.size ≤ wZ.heap.size := by have := hgrowZ.size; simp at this; omega
   obtain ⟨aZ, cZ, hvz⟩ := hownZ.open_;rw [List.length_replicate] at hvz;subst hvz;clear hgrowZ V1 B2 O2 n0 n1 nf N1 R1 O ho hcn;obtain ⟨⟨q0, q1⟩, qf⟩ := NZ;have NZ : AR wZ (w.heap.size + 1) id (.slice adk k capk) := ⟨⟨q0, q1⟩, qf⟩;have NS : AR (wZ.setCell ⟨w.heap.size + 1, 1, none⟩ (.slice aZ (k + 1) cZ)) (w.heap.size + 1) id (.slice aZ (k + 1) cZ) := ⟨⟨(AB (by decide)).trans q0, Al q1⟩, fun i => by rw [World.frozen?_setCell]; exact qf i⟩;have RS : AR (wZ.setCell ⟨w.heap.size + 1, 1, none⟩ (.slice aZ (k + 1) cZ)) w.heap.size 0 (.slice none 0 0) := RZ.keep (AE (by show w.heap.size ≠ w.heap.size + 1; omega));have OS : AA AK 11 47 y.heap.size (wZ.setCell ⟨w.heap.size + 1, 1, none⟩ (.slice aZ (k + 1) cZ)) (.slice aZ (k + 1) cZ) (List.replicate (k + 1) Pt.nil) := hownZ.keep fun g' e => AE (by have := (hownZ.lt g' e).1; show g' ≠ w.heap.size + 1; omega)
   have BS := BZ.setCell (p := ⟨w.heap.size + 1, 1, none⟩) (by show _ ≤ w.heap.size + 1; omega) (.slice aZ (k + 1) cZ);clear NZ RZ hownZ BZ;go_wp2
   go_roundw
   case rel => exact ⟨k + 1, by omega, by go_num, ⟨aZ, cZ, OS, NS⟩, RS, BS, by simpa using SZ⟩
   case measure => simp [intOf]; omega
  have dl : decide ((k : Int) < t) = false := decide_eq_false hlt;have hkm : Hid (k = m) := by unfold Hid; have := htm.out; omega
  replace hlt : Hid _ := hlt;go_wp2_with fail
  go_at_call 117
  refine (GR n 5 wr).mono ?_;rintro e w2 ⟨rfl, rfl⟩;rw [← ht.out];have hc := Fh id adk capk (List.replicate k Pt.nil) w2 (by have := O.view.2; exact this) (by rw [List.length_replicate]; omega);rw [List.length_replicate, IA, hkm.out, ← hmn.out, ← hkm.out] at hc;go_wp2_with fail
  go_at_call 91
  refine hc.mono ?_;rintro e w3 ⟨rfl, k3⟩;have R3 := R1.below k3 R1.lt;have N3 := N1.below k3 N1.lt;have O3 := O.later k3;have B3 := AG B1 k3;clear hc k3 n0 n1 nf R1 N1 O;cases he : Au id n with
  | false =>
   replace hI : Hid (IV = 0) := by unfold Hid; rw [hI.out]; unfold Bp; rw [he]; rfl
   replace hM : Hid (LV = []) := by unfold Hid; rw [hM.out]; unfold Ao; rw [he]; rfl
   replace hN : Hid (NV = false) := by unfold Hid; rw [hN.out, he]
   clear he;have RP := R3.put 0 (.slice none 0 0);obtain ⟨⟨r0, r1⟩, rf⟩ := R3;have BZ := (B3.setCell (p := (ja w.heap.size 0)) (Nat.le_refl w.heap.size) (ji 0)).setCell (p := (ja w.heap.size 1)) (Nat.le_refl w.heap.size) (.slice none 0 0);obtain ⟨⟨p0, p1⟩, _⟩ := RP;go_wp2
   refine bodyPost_ret (v := .tuple #[.agg #[ji 0, .slice none 0 0], .bool false]) (by simp [results, results96, go_sem, *]) rfl ⟨none, 0, by rw [hI.out, hM.out, hN.out]; rfl, by rw [hM.out]; exact AA.nil, BZ⟩
  | true =>
   have hRl : Hid (LV.length = k) := by unfold Hid; rw [hM.out]; unfold Ao; rw [he, if_pos rfl, List.length_replicate, hmt.out he, hkm.out]
   replace hI : Hid (IV = id) := by unfold Hid; rw [hI.out]; unfold Bp; rw [he]; rfl
   replace hM : Hid (LV = List.replicate k Pt.nil) := by unfold Hid; rw [hM.out]; unfold Ao; rw [he, if_pos rfl, hmt.out he, hkm.out]
   replace hN : Hid (NV = true) := by unfold Hid; rw [hN.out, he]
   clear he hkm;have RP := R3.put id (.slice adk k capk);obtain ⟨⟨r0, r1⟩, rf⟩ := R3;obtain ⟨⟨n0, n1⟩, nf⟩ := N3;have BZ := (B3.setCell (p := (ja w.heap.size 0)) (Nat.le_refl w.heap.size) (ji id)).setCell (p := (ja w.heap.size 1)) (Nat.le_refl w.heap.size) (.slice adk k capk);have OZ : AA AK 11 47 w.heap.size ((w3.setCell (ja w.heap.size 0) (ji id)).setCell (ja w.heap.size 1) (.slice adk k capk)) (.slice adk k capk) (List.replicate k Pt.nil) := (O3.base (by omega)).keep fun g' e => by
    have := (O3.lt g' e).1;rw [AE (by show g' ≠ w.heap.size; omega), AE (by show g' ≠ w.heap.size; omega)]
   obtain ⟨⟨p0, p1⟩, _⟩ := RP;go_wp2
   refine bodyPost_ret (v := .tuple #[.agg #[ji id, .slice adk k capk], .bool true]) (by simp [results, results96, go_sem, *]) rfl ⟨adk, capk, by rw [hI.out, hN.out, hRl.out], by rw [hRl.out, hM.out]; exact OZ, BZ⟩
attribute [local go_sem] ji ja
structure Am (w : World) (q : Nat) (r : Rg) : Prop where
 c0 : w.cell? (ja q 0) = some (ji r.ep)
 c1 : w.cell? (ja q 1) = some (ji r.ow)
 c2 : w.cell? (ja q 2) = some (ji r.pa)
theorem Am.all {w : World} {q : Nat} {r : Rg} (h : Am w q r) : w.cell? (ja q 0) = some (ji r.ep) ∧ w.cell? (ja q 1) = some (ji r.ow) ∧ w.cell? (ja q 2) = some (ji r.pa) := ⟨h.c0, h.c1, h.c2⟩
theorem Am.keep {w w' : World} {q : Nat} {r : Rg} (h : Am w q r) (k : w'.heap[q]? = w.heap[q]?) : Am w' q r :=
 ⟨(World.cell?_of_block (a := (ja q 0)) k).trans h.c0, (World.cell?_of_block (a := (ja q 1)) k).trans h.c1, (World.cell?_of_block (a := (ja q 2)) k).trans h.c2⟩
theorem Am.below {w w' : World} {q n : Nat} {r : Rg} (h : Am w q r) (k : Below n w w') (hq : q < n) : Am w' q r := h.keep (k.block q hq)
theorem Am.lt {w : World} {q : Nat} {r : Rg} (h : Am w q r) : q < w.heap.size := World.block_lt_of_cell? w _ h.c0
theorem Am.new (w : World) (t : TypeId) (r : Rg) : Am (w.alloc (Obj.cells #[ji r.ep, ji r.ow, ji r.pa] t)) w.heap.size r := by
 refine ⟨?_, ?_, ?_⟩ <;> simp [go_sem]
structure Ba (w : World) (q : Nat) (r : Rg) : Prop where
 at_ : Am w q r
 fr : ∀ i, w.frozen? (ja q i) = false
theorem Ba.keep {w w' : World} {q : Nat} {r : Rg} (h : Ba w q r) (k : w'.heap[q]? = w.heap[q]?) : Ba w' q r :=
 ⟨h.at_.keep k, fun i => (World.frozen?_of_block (a := (ja q i)) k).trans (h.fr i)⟩
theorem Ba.below {w w' : World} {q n : Nat} {r : Rg} (h : Ba w q r) (k : Below n w w') (hq : q < n) : Ba w' q r := h.keep (k.block q hq)
theorem Ba.lt {w : World} {q : Nat} {r : Rg} (h : Ba w q r) : q < w.heap.size := h.at_.lt
theorem Ba.put {w : World} {q : Nat} {r : Rg} (h : Ba w q r) (r' : Rg) : Ba (((w.setCell (ja q 0) (ji r'.ep)).setCell (ja q 1) (ji r'.ow)).setCell (ja q 2) (ji r'.pa)) q r' := by
 obtain ⟨⟨h0, h1, h2⟩, hf⟩ := h;have h0 : (w.setCell (ja q 0) (ji r'.ep)).cell? (ja q 0) = some (ji r'.ep) := Al h0;have h1 : (w.setCell (ja q 0) (ji r'.ep)).cell? (ja q 1) = _ := (AB (by decide)).trans h1;have h2 : (w.setCell (ja q 0) (ji r'.ep)).cell? (ja q 2) = _ := (AB (by decide)).trans h2;have h0 : ((w.setCell (ja q 0) (ji r'.ep)).setCell (ja q 1) (ji r'.ow)).cell? (ja q 0) = _ := (AB (by decide)).trans h0;have h1 : ((w.setCell (ja q 0) (ji r'.ep)).setCell (ja q 1) (ji r'.ow)).cell? (ja q 1) = some (ji r'.ow) := Al h1;have h2 : ((w.setCell (ja q 0) (ji r'.ep)).setCell (ja q 1) (ji r'.ow)).cell? (ja q 2) = _ := (AB (by decide)).trans h2;refine ⟨⟨(AB (by decide)).trans h0, (AB (by decide)).trans h1, Al h2⟩, fun i => ?_⟩;rw [World.frozen?_setCell, World.frozen?_setCell, World.frozen?_setCell]; exact hf i
theorem Gg (w : World) (q k : Nat) (r' : Rg) (h : k ≠ q) : (((w.setCell (ja q 0) (ji r'.ep)).setCell (ja q 1) (ji r'.ow)).setCell (ja q 2) (ji r'.pa)).heap[k]? = w.heap[k]? := by
 rw [AE h, AE h, AE h]
theorem Fp {a w : World} {q n : Nat} (r' : Rg) (h : Below n a w) (hq : n ≤ q) : Below n a (((w.setCell (ja q 0) (ji r'.ep)).setCell (ja q 1) (ji r'.ow)).setCell (ja q 2) (ji r'.pa)) :=
 ((h.setCell (p := (ja q 0)) hq _).setCell (p := (ja q 1)) hq _).setCell (p := (ja q 2)) hq _
attribute [local go_sem] mc
theorem G8 (a b : Int) (w : World) : Calls prog 141 #[ji a, ji b] w fun e w' => e = .returned (ji (if b < a then a else b)) ∧ w' = w := by
 by_cases h : b < a
 ·
  rw [if_pos h];have d : decide (b < a) = true := decide_eq_true h;go_enter func141, ntmps141
  go_wp2
  go_ret
  exact ⟨rfl, rfl⟩
 rw [if_neg h];have d : decide (b < a) = false := decide_eq_false h;go_enter func141, ntmps141
 go_wp2
 go_ret
 exact ⟨rfl, rfl⟩
theorem GJ (r : Rg) (w : World) : Calls prog 148 #[.agg #[ji r.ep, ji r.ow, ji r.pa]] w fun e w' => e = .returned (.bool (CB r)) ∧ Bw w w' := by
 obtain ⟨R, hR⟩ := AC (CB r);rw [← hR];replace hR : Hid _ := hR;obtain ⟨y, hy, B0⟩ := AM w (Obj.cells #[ji r.ep, ji r.ow, ji r.pa] 57);have A : Am y w.heap.size r := by rw [hy]; exact Am.new w _ r
 go_enter func148, ntmps148
 go_upto_region 1 with fail
 rw [← hy];clear hy;have x0 := A.all;go_wp2_with fail
 go_at_call 66
 refine (BE r.ep 1 100000 y).mono ?_;rintro e v0 ⟨rfl, hw_⟩;have A := (by rw [hw_]; exact A : Am v0 w.heap.size r);have B0 := (by rw [hw_]; exact B0 : Bw w v0);clear hw_;clear x0;cases h1 : decide (1 ≤ r.ep ∧ r.ep ≤ 100000)
 ·
  have hN : Hid (R = false) := by unfold Hid; rw [hR.out]; unfold CB; rw [h1]; rfl
  clear h1;go_wp2
  go_ret
  exact ⟨by rw [hN.out]; rfl, B0⟩
 replace h1 : Hid _ := h1;have x0 := A.all;go_wp2_with fail
 go_at_call 66
 refine (BE r.ow 0 1 v0).mono ?_;rintro e v1 ⟨rfl, hw_⟩;have A := (by rw [hw_]; exact A : Am v1 w.heap.size r);have B0 := (by rw [hw_]; exact B0 : Bw w v1);clear hw_;clear x0;cases h2 : decide (0 ≤ r.ow ∧ r.ow ≤ 1)
 ·
  have hN : Hid (R = false) := by unfold Hid; rw [hR.out]; unfold CB; rw [h1.out, h2]; rfl
  clear h2;go_wp2
  go_ret
  exact ⟨by rw [hN.out]; rfl, B0⟩
 replace h2 : Hid _ := h2;have x0 := A.all;go_wp2_with fail
 go_at_call 66
 refine (BE r.pa 0 100000 v1).mono ?_;rintro e v2 ⟨rfl, hw_⟩;have A := (by rw [hw_]; exact A : Am v2 w.heap.size r);have B0 := (by rw [hw_]; exact B0 : Bw w v2);clear hw_;clear x0;rw [show decide (0 ≤ r.pa ∧ r.pa ≤ 100000) = CK r.pa from rfl];have hN : Hid (R = CK r.pa) := by unfold Hid; rw [hR.out]; unfold CB; rw [h1.out, h2.out]; rfl
 rw [← hN.out];go_wp2
 go_ret
 exact ⟨rfl, B0⟩
theorem II (r : Rg) (s : Int) (m : Mi) (ad : Option Addr) (cap : Nat) (w : World) (hv : AI AW w ad m.lg) (hl : m.lg.length ≤ 1048577) :
  Calls prog 172 #[.agg #[ji r.ep, ji r.ow, ji r.pa], ji s, .agg #[.bool m.up, ji m.li, ji m.ep, .slice ad m.lg.length cap, ji m.sd, ji m.ac, ji m.al]] w fun e w' => e = .returned (.bool (EP r s m)) ∧ Bw w w' := by
 have hB := hv.lt Av (by omega);obtain ⟨R, hR⟩ := AC (EP r s m);rw [← hR];replace hR : Hid _ := hR;obtain ⟨y, hy⟩ := AC ((w.alloc (Obj.cells #[ji r.ep, ji r.ow, ji r.pa] 57)).alloc (Obj.cells (mc m ad cap) 54));have B0 : Bw w y := by rw [hy]; exact ((Below.refl _ _).alloc (Nat.le_refl _) _).alloc (by simp) _
 have A : Am y w.heap.size r := by rw [hy]; constructor <;> simp [go_sem]
 have M : Ab y (w.heap.size + 1) m (.slice ad m.lg.length cap) := by rw [hy]; constructor <;> simp [go_sem]
 have hv1 := hv.below B0 hB;clear hv hB;go_enter func172, ntmps172
 have x0 := A.all;go_wp2_with fail
 go_at_call 148
 rw [← hy];clear x0 hy;refine (GJ r y).mono ?_;rintro e v1 ⟨rfl, k1⟩;have A := A.below k1 A.lt;have M := M.below k1 M.lt;have hv1 := hv1.below k1 (hv1.lt Av (by omega));have B1 := AG B0 k1;clear k1 B0;cases h1 : CB r
 ·
  have hN : Hid (R = false) := by unfold Hid; rw [hR.out]; unfold EP; rw [h1]; rfl
  clear h1;go_wp2
  go_ret
  exact ⟨by rw [hN.out]; rfl, B1⟩
 replace h1 : Hid _ := h1;have x0 := M.all;go_wp2_with fail
 go_at_call 149
 clear x0;refine (Fc m ad cap v1 hv1 hl).mono ?_;rintro e v2 ⟨rfl, k2⟩;have A := A.below k2 A.lt;have M := M.below k2 M.lt;have B2 := AG B1 k2;clear k2 B1 hv1;cases h2 : BM m
 ·
  have hN : Hid (R = false) := by unfold Hid; rw [hR.out]; unfold EP; rw [h1.out, h2]; rfl
  clear h2;go_wp2
  go_ret
  exact ⟨by rw [hN.out]; rfl, B2⟩
 replace h2 : Hid _ := h2;obtain ⟨x0, x1, x2, x3, x4, x5, x6⟩ := M;replace A := A.all;cases h3 : m.up
 ·
  rw [h3] at x0;have hN : Hid (R = false) := by unfold Hid; rw [hR.out]; unfold EP; rw [h1.out, h2.out, h3]; rfl
  go_wp2
  go_ret
  exact ⟨by rw [hN.out]; rfl, B2⟩
 rw [h3] at x0;by_cases h4 : s = r.ow
 ·
  have d4 : (s == r.ow) = true := by simpa using h4
  have hN : Hid (R = (m.ep == r.ep)) := by unfold Hid; rw [hR.out]; unfold EP; rw [h1.out, h2.out, h3, decide_eq_true h4]; by_cases h5 : m.ep = r.ep <;> simp [h5]
  replace h4 : Hid _ := h4;go_wp2
  go_ret
  exact ⟨by rw [hN.out]; rfl, B2⟩
 have d4 : (s == r.ow) = false := by rw [beq_eq_false_iff_ne]; exact h4
 have hN : Hid (R = false) := by unfold Hid; rw [hR.out]; unfold EP; rw [h1.out, h2.out, h3, decide_eq_false h4]; rfl
 clear h4;go_wp2
 go_ret
 exact ⟨by rw [hN.out]; rfl, B2⟩
end Go.Proofs.YtjmnaeeknomiaaaGreatDoor
