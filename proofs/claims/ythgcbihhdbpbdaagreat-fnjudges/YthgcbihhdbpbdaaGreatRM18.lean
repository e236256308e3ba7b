import Derived.Test.YthgcbihhdbpbdaaGreatRM6
import Derived.Test.YthgcbihhdbpbdaaGreatProg
import Derived.Conc.MuLone
import Derived.KernelRfl
import Derived.Laws.LoneSync
namespace Go.Proofs.YthgcbihhdbpbdaaGreat
open Go.ChangeShapes Go.WideShapes Go.ChangeAt Go.RowKit
open Go.ChangeMaps (open_string shut_string)
set_option linter.unusedVariables false
set_option maxRecDepth 100000
set_option maxHeartbeats 32000000
set_option linter.unusedSimpArgs false
open Go.Proofs.Tryz
attribute [local go_sem] ji ja mc
theorem BJ.put2 {w : World} {q : Nat} {r : Rg} (h : BJ w q r) (p : Int) : BJ (w.setCell (ja q 2) (ji p)) q ⟨r.ep, r.ow, p⟩ :=
 ⟨⟨(AC (by decide)).trans h.at_.c0, (AC (by decide)).trans h.at_.c1, Aj h.at_.c2⟩, fun i => by rw [World.frozen?_setCell]; exact h.fr i⟩
theorem IC (r : Rg) (s : Int) (m : Mi) (ad : Option Addr) (cap : Nat) (p : Int) (w : World) (hv : AH AS w ad m.lg) (hl : m.lg.length ≤ 1048577) :
  Calls prog 202 #[.agg #[ji r.ep, ji r.ow, ji r.pa], ji s, .agg #[.bool m.up, ji m.li, ji m.ep, .slice ad m.lg.length cap, ji m.sd, ji m.ac, ji m.al], ji p] w fun e w' => e = .returned (.tuple #[.agg #[ji (DW r s m p).ep, ji (DW r s m p).ow, ji (DW r s m p).pa], .bool (DQ r s m p)]) ∧ Bw w w' := by
 have hB := hv.lt Aa (by omega);obtain ⟨y, hy⟩ := AB (((w.alloc (Obj.cells #[ji r.ep, ji r.ow, ji r.pa] 27)).alloc (Obj.cells (mc m ad cap) 52)).alloc (Obj.cells #[ji 0, ji 0, ji 0] 27));have B0 : Bw w y := by rw [hy]; exact (((Below.refl _ _).alloc (Nat.le_refl _) _).alloc (by simp) _).alloc (by simp; omega) _
 have A : BJ y w.heap.size r := by rw [hy]; refine ⟨?_, fun i => ?_⟩; constructor <;> simp [go_sem]; simp [go_sem]
 have M : Ag y (w.heap.size + 1) m (.slice ad m.lg.length cap) := by rw [hy]; constructor <;> simp [go_sem]
 have Z : BJ y (w.heap.size + 1 + 1) ⟨0, 0, 0⟩ := by rw [hy]; refine ⟨?_, fun i => ?_⟩; constructor <;> simp [go_sem]; simp [go_sem]
 have hv1 := hv.below B0 hB;clear hv hB;go_enter func202, ntmps202
 obtain ⟨⟨x0, x1, x2⟩, xf⟩ := id A;have n0 := M.all;go_wp2_with fail
 go_at_call 106
 rw [← hy];clear n0 hy x0 x1 x2 xf;refine (IE r s m ad cap y hv1 hl).mono ?_;rintro e v1 ⟨rfl, k1⟩;have A := A.below k1 A.lt;have M := M.below k1 M.lt;have Z := Z.below k1 Z.lt;have B1 := AA B0 k1;clear k1 B0 hv1;have Bn := FI (q := w.heap.size + 1 + 1) r B1 (by omega);have hA2 := A.put2 p;have Bq : Bw w (v1.setCell (ja w.heap.size 2) (ji p)) := B1.setCell (p := (ja w.heap.size 2)) (Nat.le_refl _) _;have By := FI (q := w.heap.size + 1 + 1) ⟨r.ep, r.ow, p⟩ Bq (by omega);obtain ⟨⟨x0, x1, x2⟩, xf⟩ := A;replace M := M.all;obtain ⟨⟨z0, z1, z2⟩, zf⟩ := Z;have g0 := zf 0;have g1 := zf 1;have g2 := zf 2;have f2 := xf 2;clear zf xf;obtain ⟨⟨q0, q1, q2⟩, qf⟩ := hA2;clear qf;dsimp only at q0 q1 q2 By;cases h1 : Cz r s m
 focus
  have hP : Hid (DQ r s m p = false) := by unfold Hid DQ; rw [h1]; rfl
  have hQ : Hid (DW r s m p = r) := GR hP.out;clear h1;have L1 := 0
 rotate_left;focus
  replace h1 : Hid _ := h1;by_cases h2 : p = 0
  focus
   have dh2 : (p == 0) = true := by simpa using h2
   have eh2 : (p != 0) = false := by simpa using h2
   have hP : Hid (DQ r s m p = true) := by unfold Hid DQ; rw [h1.out, decide_eq_true h2]; rfl
   have hQ : Hid (DW r s m p = ⟨r.ep, r.ow, p⟩) := by unfold Hid DW; rw [if_pos hP.out]
   replace h2 : Hid _ := h2;have L2 := 0
  rotate_left;focus
   have dh2 : (p == 0) = false := by rw [beq_eq_false_iff_ne]; exact h2
   have eh2 : (p != 0) = true := by simpa using h2
   replace h2 : Hid (¬ p = 0) := h2;by_cases h3 : p = m.al
   focus
    have dh3 : (p == m.al) = true := by simpa using h3
    have eh3 : (p != m.al) = false := by simpa using h3
    replace h3 : Hid _ := h3;by_cases h4 : m.ac = (m.lg.length : Int)
    focus
     have dh4 : (m.ac == (m.lg.length : Int)) = true := by simpa using h4
     have eh4 : (m.ac != (m.lg.length : Int)) = false := by simpa using h4
     have hP : Hid (DQ r s m p = true) := by unfold Hid DQ; rw [h1.out, decide_eq_true h3.out, decide_eq_true h4, Bool.and_true, Bool.or_true]; rfl
     have hQ : Hid (DW r s m p = ⟨r.ep, r.ow, p⟩) := by unfold Hid DW; rw [if_pos hP.out]
     replace h4 : Hid _ := h4;have L2 := 0
    rotate_left;focus
     have dh4 : (m.ac == (m.lg.length : Int)) = false := by rw [beq_eq_false_iff_ne]; exact h4
     have eh4 : (m.ac != (m.lg.length : Int)) = true := by simpa using h4
     have hP : Hid (DQ r s m p = false) := by unfold Hid DQ; rw [h1.out, decide_eq_false h2.out, decide_eq_false h4, Bool.and_false]; rfl
     have hQ : Hid (DW r s m p = r) := GR hP.out;clear h4;have L1 := 0
    rotate_left
   rotate_left 2;focus
    have dh3 : (p == m.al) = false := by rw [beq_eq_false_iff_ne]; exact h3
    have eh3 : (p != m.al) = true := by simpa using h3
    have hP : Hid (DQ r s m p = false) := by unfold Hid DQ; rw [h1.out, decide_eq_false h2.out, decide_eq_false h3]; rfl
    have hQ : Hid (DW r s m p = r) := GR hP.out;clear h3;have L1 := 0
   rotate_left
  rotate_left 3
 rotate_left 4;all_goals first
  | clear L1
    go_wp2
    refine bodyPost_ret (v := .tuple #[.agg #[ji r.ep, ji r.ow, ji r.pa], .bool false]) (by simp [results, results202, go_sem, *]) rfl ⟨by rw [hP.out, hQ.out], Bn⟩
  | clear L2
    go_wp2
    refine bodyPost_ret (v := .tuple #[.agg #[ji r.ep, ji r.ow, ji p], .bool true]) (by simp [results, results202, go_sem, *]) rfl ⟨by rw [hP.out, hQ.out], By⟩
theorem J8 (m : Mi) (ad : Option Addr) (cap : Nat) (p : Int) (w : World) (hm : m.lg.length ≤ maxLen) :
  Calls prog 197 #[.agg #[.bool m.up, ji m.li, ji m.ep, .slice ad m.lg.length cap, ji m.sd, ji m.ac, ji m.al], ji p] w fun e w' => e = .returned (.bool (Dk m p)) ∧ Bw w w' := by
 obtain ⟨up, li, ep, L, sd, ac, al⟩ := m;dsimp only
 dsimp only at hm;obtain ⟨R, hR⟩ := AB (Dk ⟨up, li, ep, L, sd, ac, al⟩ p);rw [← hR];replace hR : Hid _ := hR;unfold maxLen at hm;have B0 := Al (w := w) (Obj.cells #[.bool up, ji li, ji ep, .slice ad L.length cap, ji sd, ji ac, ji al] 52);cases up
 focus
  have hN : Hid (R = false) := by unfold Hid; rw [hR.out]; unfold Dk; clear hR B0; first | (simp [*]; done) | (simp [*] at *; done) | (simp_all; done) | omega | grind
 rotate_left;focus
  by_cases q1 : 0 < ep
  focus
   have dq1 : decide (0 < ep) = true := decide_eq_true q1;by_cases q2 : sd < (L.length : Int)
   focus
    have dq2 : decide (sd < (L.length : Int)) = true := decide_eq_true q2;by_cases q3 : p = 0
    focus
     have dq3 : (p == 0) = true := by simpa using q3
     replace q3 : Hid _ := q3;have hN : Hid (R = true) := by unfold Hid; rw [hR.out]; unfold Dk; clear hR B0; have eq3 := q3.out; first | (simp [*]; done) | (simp [*] at *; done) | (simp_all; done) | omega | grind
    rotate_left;focus
     have dq3 : (p == 0) = false := by simpa using q3
     replace q3 : Hid _ := q3;by_cases q4 : al = p
     focus
      have dq4 : (al == p) = true := by simpa using q4
      replace q4 : Hid _ := q4;by_cases q5 : sd < ac
      focus
       have dq5 : decide (sd < ac) = true := decide_eq_true q5;have hN : Hid (R = true) := by unfold Hid; rw [hR.out]; unfold Dk; clear hR B0; have eq3 := q3.out; have eq4 := q4.out; first | (simp [*]; done) | (simp [*] at *; done) | (simp_all; done) | omega | grind
      rotate_left;focus
       have dq5 : decide (sd < ac) = false := decide_eq_false q5;have hN : Hid (R = false) := by unfold Hid; rw [hR.out]; unfold Dk; clear hR B0; have eq3 := q3.out; have eq4 := q4.out; first | (simp [*]; done) | (simp [*] at *; done) | (simp_all; done) | omega | grind
      rotate_left
     rotate_left 2;focus
      have dq4 : (al == p) = false := by simpa using q4
      replace q4 : Hid _ := q4;have hN : Hid (R = false) := by unfold Hid; rw [hR.out]; unfold Dk; clear hR B0; have eq3 := q3.out; have eq4 := q4.out; first | (simp [*]; done) | (simp [*] at *; done) | (simp_all; done) | omega | grind
     rotate_left
    rotate_left 3
   rotate_left 4;focus
    have dq2 : decide (sd < (L.length : Int)) = false := decide_eq_false q2;have hN : Hid (R = false) := by unfold Hid; rw [hR.out]; unfold Dk; clear hR B0; first | (simp [*]; done) | (simp [*] at *; done) | (simp_all; done) | omega | grind
   rotate_left
  rotate_left 5;focus
   have dq1 : decide (0 < ep) = false := decide_eq_false q1;have hN : Hid (R = false) := by unfold Hid; rw [hR.out]; unfold Dk; clear hR B0; first | (simp [*]; done) | (simp [*] at *; done) | (simp_all; done) | omega | grind
  rotate_left
 rotate_left 6;all_goals
  clear hR;go_enter func197, ntmps197
  go_wp2
  go_ret
  exact ⟨by rw [hN.out]; rfl, B0⟩
end Go.Proofs.YthgcbihhdbpbdaaGreat
namespace Go.Proofs.YthgcbihhdbpbdaaGreat
open Go.ChangeShapes Go.WideShapes Go.ChangeAt Go.RowKit
open Go.ChangeMaps (open_string shut_string)
set_option linter.unusedVariables false
set_option maxRecDepth 100000
set_option maxHeartbeats 32000000
set_option linter.unusedSimpArgs false
open Go.Proofs.Tryz
theorem I5 (id : Int) (ad : Option Addr) (cap : Nat) (L : List Pt) (w : World) (hv : AH AJ w ad L) (hl : L.length ≤ 1048576) :
  Calls prog 35 #[.agg #[ji id, .slice ad L.length cap]] w fun e w' => ∃ a c, e = .returned (.slice a L.length c) ∧ AD Bj 1 4 w.heap.size w' (.slice a L.length c) (BK L) ∧ Bw w w' := by
 obtain ⟨j0, hj, hj0, hj1, hj2⟩ := info_parts Gs;obtain ⟨y, hy, B0⟩ := AI w (Obj.cells #[ji id, .slice ad L.length cap] 42);have A : Ab y w.heap.size id (.slice ad L.length cap) := by rw [hy]; exact Ab.new w _ _ _
 have hB := hv.lt AK (by omega);have hV := hv.below B0 hB;have hB := hV.lt AK (by omega);have S0 := A.lt;clear hv;obtain ⟨y2, hy2, B1⟩ := AI y (Obj.cells #[] 4);have O0 : AD Bj 1 4 y.heap.size y2 (.slice (some (ja y.heap.size 0)) 0 0) (BK (L.take 0)) := by
  rw [hy2]; exact AD.empty y
 go_enter func35, ntmps35
 go_upto_region 1 with fail
 rw [← hy];clear hy;go_upto_region 2 with fail
 rw [← hy2];clear hy2;go_wp2
 go_loopw [3, 4] (fun v q wr => ∃ k : Nat, k ≤ L.length ∧ q = .int .i64 (k : Int) ∧ AD Bj 1 4 y.heap.size wr v (BK (L.take k)) ∧ Below y.heap.size y wr) (fun _ q _ => L.length - (intOf q).toNat)
 case atStart => exact ⟨0, Nat.zero_le _, rfl, O0, B1⟩
 case round =>
  obtain ⟨k, hk1, rfl, O, kb⟩ := hrel;clear O0 B1;have hA := A.below kb S0;obtain ⟨x1, x2⟩ := hA;by_cases hlt : k < L.length
  ·
   have hst := Ii L hlt;obtain ⟨b, off, rfl, _⟩ := hV (by omega);obtain ⟨h, hh⟩ : ∃ h, L.getD k Pt.nil = h := ⟨_, rfl⟩;have hck : BL wr b (off + k * 11) h := by
    rw [← hh];exact BV ((hV.below kb hB).at_ AK Pt.nil hlt)
   rw [hh] at hst;have hop := hck.c10;clear hck hh;obtain ⟨M, hM⟩ : ∃ M, BK (L.take k) = M := ⟨_, rfl⟩;have hMl : M.length ≤ k := by rw [← hM, Ed]; simp; omega
   rw [hM] at O hst;clear hM;obtain ⟨ak, ck2, rfl⟩ := O.open_;replace hst : Hid _ := hst;have V1 := AH.oneB wr 4 h.op;have kx : Bw wr (wr.alloc (Obj.cells #[.bool h.op] 4)) := Al _;have O4 := O.later kx;have b4 := AA kb kx;have s4 := b4.size;clear kx;go_wp2_with (first | (at_builtin; refine DX DE HT rfl _ _ 30 rfl y.heap.size 4 j0 (.bool false) 1 underlying30 hj hj0 hj1 hj2 rfl (by decide) (by decide) (.slice ak M.length ck2) M rfl O4 (some (ja wr.heap.size 0)) 1 [h.op] rfl (fun e => by cases e) V1 ?z0 ?z1 ?_) | go_in)
   case z0 => first | omega | (simp; omega)
   case z1 => first | omega | (simp; omega)
   intro vZ wZ hownZ hgrowZ _;have hob : ∀ q, (Value.slice ak M.length ck2).ownBlock = some q → y.heap.size ≤ q := fun q e => (O4.lt q e).1
   have bZ : Bw y wZ := b4.grown hgrowZ (by exact s4) hob;clear hgrowZ V1 O4 hob O b4;go_wp2
   go_roundw
   case rel => exact ⟨k + 1, by omega, by go_num, by rw [hst.out]; exact hownZ, bZ⟩
   case measure => simp [intOf]; omega
  obtain rfl : k = L.length := by omega
  rw [List.take_length] at O;obtain ⟨ak, ck2, rfl⟩ := O.open_;have OZ := O.base B0.size;rw [Ed] at OZ ⊢;have bZ := AA B0 kb;go_wp2
  go_ret
  exact ⟨_, _, rfl, OZ, bZ⟩
theorem Hr (id : Int) (ad : Option Addr) (cap : Nat) (L : List Pt) (w : World) (hv : AH AJ w ad L) (hl : L.length ≤ 1048576) :
  Calls prog 35 #[.agg #[ji id, .slice ad L.length cap]] w fun e w' => ∃ a c, e = .returned (.slice a (BK L).length c) ∧ AD Bj 1 4 w.heap.size w' (.slice a (BK L).length c) (BK L) ∧ Bw w w' := by
 rw [Ed];exact I5 id ad cap L w hv hl
attribute [local go_sem] ji ja
theorem HF (g : Nat) : ∀ (vs : List Value) (o : Nat) (w : World), w.setCells g o vs = CN w g o vs
 | [], _, _ => rfl
 | v :: vs, o, w => HF g vs (o + 1) (w.setCell (ja g o) v)
structure DF (q : Nat) (o : Option Nat) (w w' : World) : Prop where
 os : w'.os = w.os
 tape : w'.tape = w.tape
 output : w'.output = w.output
 size : w.heap.size ≤ w'.heap.size
 block : ∀ k, k < w.heap.size → k ≠ q → o ≠ some k → w'.heap[k]? = w.heap[k]?
theorem DF.below {q : Nat} {o : Option Nat} {w w' : World} (h : DF q o w w') {B : Nat} (hB : B ≤ w.heap.size) (h1 : B ≤ q) (h2 : ∀ g, o = some g → B ≤ g) : Below B w w' :=
 ⟨h.os, h.tape, h.output, h.size, fun k hk => h.block k (by omega) (by omega) (fun e => by have := h2 k e; omega)⟩
theorem DF.refl (q : Nat) (o : Option Nat) (w : World) : DF q o w w := ⟨rfl, rfl, rfl, Nat.le_refl _, fun _ _ _ _ => rfl⟩
theorem DF.set {q : Nat} {o : Option Nat} {w w' : World} (h : DF q o w w') (i : Nat) (v : Value) : DF q o w (w'.setCell (ja q i) v) :=
 ⟨h.os, h.tape, h.output, by simpa using h.size, fun k hk h1 h2 => (AE h1).trans (h.block k hk h1 h2)⟩
theorem DF.put {q g : Nat} {w : World} (o : Nat) (vs : List Value) : DF q (some g) w (CN w g o vs) := by
 have hb := DC (B := 0) (g := g) (a := w) (Nat.zero_le _) vs o (Below.refl 0 w);exact ⟨hb.os, hb.tape, hb.output, hb.size, fun k _ _ h2 => DD vs w o k (fun e => h2 (by rw [e]))⟩
theorem Jx (w : World) : (zeroValue 64).run prog w = .ok (.agg #[ji 0, ji 0, ji 0, ji 0, ji 0, ji 0, ji 0, .bool false]) w := by kernel_rfl
theorem Js (w : World) (ty : TypeId) (g n c : Nat) (hn : 0 < n) (hc : ∀ j, j < n * 8 → (w.cell? (ja g j)).isSome = true) (hf : ∀ j, w.frozen? (ja g j) = false) :
  ∃ vs, (Builtin.clear_ #[31] ty #[.slice (some (ja g 0)) n c]).run prog w = .ok (.tuple #[]) (CN w g 0 vs) := by
 obtain ⟨z, hz⟩ := AB (Value.agg #[ji 0, ji 0, ji 0, ji 0, ji 0, ji 0, ji 0, .bool false]);have h8 : z.cells.size = 8 := by rw [hz]; rfl
 have hl : (Builtin.zeroCells z.cells n).toList.length = n * 8 := by simp [Builtin.zeroCells, h8]
 have h1 : ∀ v ∈ (Builtin.zeroCells z.cells n).toList, v.oneCell' = true := by
  intro v hv;simp only [Builtin.zeroCells, h8, Array.toList_map, List.mem_map] at hv;obtain ⟨i, _, rfl⟩ := hv;have : i % 8 = 0 ∨ i % 8 = 1 ∨ i % 8 = 2 ∨ i % 8 = 3 ∨ i % 8 = 4 ∨ i % 8 = 5 ∨ i % 8 = 6 ∨ i % 8 = 7 := by omega
  rw [hz];rcases this with e | e | e | e | e | e | e | e <;> rw [e] <;> rfl
 have hst := run_storeCells_cells (P := prog) g 0 (Builtin.zeroCells z.cells n).toList 0 w (by rw [hl]; simpa using hc) (fun j _ => by simpa using hf j) h1;simp only [Nat.add_zero] at hst;rw [HF] at hst;refine ⟨(Builtin.zeroCells z.cells n).toList, ?_⟩;have hzv : ∀ w : World, (zeroValue 64).run prog w = .ok z w := fun w => by rw [hz]; exact Jx w
 obtain ⟨k, rfl⟩ : ∃ k, n = k + 1 := ⟨n - 1, by omega⟩;simp [Builtin.clear_, run_underlying underlying31, hzv, hst]
theorem KL (m : Mi) (q base : Nat) (ad : Option Addr) (cap : Nat) (w : World) (M : CO w q m (.slice ad m.lg.length cap)) (O : AD AS 8 64 base w (.slice ad m.lg.length cap) m.lg) (hq : ∀ g, (Value.slice ad m.lg.length cap).ownBlock = some g → g ≠ q) :
  Calls prog 163 #[.pointer (some (ja q 0))] w fun e w' => e = .returned (.tuple #[]) ∧ CO w' q m (.slice ad 0 cap) ∧ DF q (Value.slice ad m.lg.length cap).ownBlock w w' := by
 have hcl : ∃ w1, (∀ ty, (Builtin.clear_ #[31] ty #[.slice ad m.lg.length cap]).run prog w = .ok (.tuple #[]) w1) ∧ CO w1 q m (.slice ad m.lg.length cap) ∧ DF q (Value.slice ad m.lg.length cap).ownBlock w w1 := by
  cases ad with
  | none =>
   refine ⟨w, fun ty => ?_, M, DF.refl _ _ _⟩;simp [Builtin.clear_, run_underlying underlying31]
  | some a =>
   by_cases h0 : m.lg.length = 0
   ·
    refine ⟨w, fun ty => ?_, M, DF.refl _ _ _⟩;rw [h0];simp [Builtin.clear_, run_underlying underlying31]
   have ha : ∃ g, a = (ja g 0) := by
    rcases O.2 with ⟨e, _⟩ | ⟨g, c, cur, e, _⟩
    ·
     cases e
    simp only [Value.slice.injEq, Option.some.injEq] at e;exact ⟨g, e.1⟩
   obtain ⟨g, rfl⟩ := ha;have hc : ∀ j, j < m.lg.length * 8 → (w.cell? (ja g j)).isSome = true := fun j hj => by
    rw [World.ownsRow.cellAt O j hj];have hx : (Ac AS m.lg).length = m.lg.length * 8 := EP Aa _;rw [List.getElem?_eq_getElem (by omega)];rfl
   have hne : q ≠ g := fun e => hq g rfl e.symm
   obtain ⟨vs, hvs⟩ := Js w 0 g m.lg.length cap (by omega) hc (fun j => O.frozen j);refine ⟨CN w g 0 vs, fun ty => hvs, M.keep (DD vs w 0 q hne), DF.put 0 vs⟩
 obtain ⟨w1, hcl, M1, T1⟩ := hcl;have M2 := M1.log (.slice ad 0 cap);have T2 := T1.set 0 (.slice ad 0 cap);have c0 := M.c0;have d0 := M1.c0;have f0 := M1.fr 0;clear M M1 T1 O hq;cases ad with
 | none =>
  go_enter func163, ntmps163
  go_wp2_with (simp only [hcl])
  go_end0
  exact ⟨rfl, M2, T2⟩
 | some a =>
  go_enter func163, ntmps163
  go_wp2_with (simp only [hcl])
  go_end0
  exact ⟨rfl, M2, T2⟩
theorem CO.fallen {w : World} {q : Nat} {m : Mi} {v : Value} (h : CO w q m v) : CO ((((((w.setCell (ja q 1) (.bool false)).setCell (ja q 2) (ji m.li)).setCell (ja q 3) (ji 0)).setCell (ja q 4) (ji 0)).setCell (ja q 5) (ji 0)).setCell (ja q 6) (ji 0)) q ⟨false, m.li, 0, [], 0, 0, 0⟩ v := by
 obtain ⟨h0, h1, h2, h3, h4, h5, h6, hf⟩ := h;have h0 : (w.setCell (ja q 1) (.bool false)).cell? (ja q 0) = _ := (AC (by decide)).trans h0;have h1 : (w.setCell (ja q 1) (.bool false)).cell? (ja q 1) = some (.bool false) := Aj h1;have h2 : (w.setCell (ja q 1) (.bool false)).cell? (ja q 2) = _ := (AC (by decide)).trans h2;have h3 : (w.setCell (ja q 1) (.bool false)).cell? (ja q 3) = _ := (AC (by decide)).trans h3;have h4 : (w.setCell (ja q 1) (.bool false)).cell? (ja q 4) = _ := (AC (by decide)).trans h4;have h5 : (w.setCell (ja q 1) (.bool false)).cell? (ja q 5) = _ := (AC (by decide)).trans h5;have h6 : (w.setCell (ja q 1) (.bool false)).cell? (ja q 6) = _ := (AC (by decide)).trans h6;have h0 : ((w.setCell (ja q 1) (.bool false)).setCell (ja q 2) (ji m.li)).cell? (ja q 0) = _ := (AC (by decide)).trans h0;have h1 : ((w.setCell (ja q 1) (.bool false)).setCell (ja q 2) (ji m.li)).cell? (ja q 1) = _ := (AC (by decide)).trans h1;have h2 : ((w.setCell (ja q 1) (.bool false)).setCell (ja q 2) (ji m.li)).cell? (ja q 2) = some (ji m.li) := Aj h2;have h3 : ((w.setCell (ja q 1) (.bool false)).setCell (ja q 2) (ji m.li)).cell? (ja q 3) = _ := (AC (by decide)).trans h3;have h4 : ((w.setCell (ja q 1) (.bool false)).setCell (ja q 2) (ji m.li)).cell? (ja q 4) = _ := (AC (by decide)).trans h4;have h5 : ((w.setCell (ja q 1) (.bool false)).setCell (ja q 2) (ji m.li)).cell? (ja q 5) = _ := (AC (by decide)).trans h5;have h6 : ((w.setCell (ja q 1) (.bool false)).setCell (ja q 2) (ji m.li)).cell? (ja q 6) = _ := (AC (by decide)).trans h6;have h0 : (((w.setCell (ja q 1) (.bool false)).setCell (ja q 2) (ji m.li)).setCell (ja q 3) (ji 0)).cell? (ja q 0) = _ := (AC (by decide)).trans h0;have h1 : (((w.setCell (ja q 1) (.bool false)).setCell (ja q 2) (ji m.li)).setCell (ja q 3) (ji 0)).cell? (ja q 1) = _ := (AC (by decide)).trans h1;have h2 : (((w.setCell (ja q 1) (.bool false)).setCell (ja q 2) (ji m.li)).setCell (ja q 3) (ji 0)).cell? (ja q 2) = _ := (AC (by decide)).trans h2;have h3 : (((w.setCell (ja q 1) (.bool false)).setCell (ja q 2) (ji m.li)).setCell (ja q 3) (ji 0)).cell? (ja q 3) = some (ji 0) := Aj h3;have h4 : (((w.setCell (ja q 1) (.bool false)).setCell (ja q 2) (ji m.li)).setCell (ja q 3) (ji 0)).cell? (ja q 4) = _ := (AC (by decide)).trans h4;have h5 : (((w.setCell (ja q 1) (.bool false)).setCell (ja q 2) (ji m.li)).setCell (ja q 3) (ji 0)).cell? (ja q 5) = _ := (AC (by decide)).trans h5;have h6 : (((w.setCell (ja q 1) (.bool false)).setCell (ja q 2) (ji m.li)).setCell (ja q 3) (ji 0)).cell? (ja q 6) = _ := (AC (by decide)).trans h6;have h0 : ((((w.setCell (ja q 1) (.bool false)).setCell (ja q 2) (ji m.li)).setCell (ja q 3) (ji 0)).setCell (ja q 4) (ji 0)).cell? (ja q 0) = _ := (AC (by decide)).trans h0;have h1 : ((((w.setCell (ja q 1) (.bool false)).setCell (ja q 2) (ji m.li)).setCell (ja q 3) (ji 0)).setCell (ja q 4) (ji 0)).cell? (ja q 1) = _ := (AC (by decide)).trans h1;have h2 : ((((w.setCell (ja q 1) (.bool false)).setCell (ja q 2) (ji m.li)).setCell (ja q 3) (ji 0)).setCell (ja q 4) (ji 0)).cell? (ja q 2) = _ := (AC (by decide)).trans h2;have h3 : ((((w.setCell (ja q 1) (.bool false)).setCell (ja q 2) (ji m.li)).setCell (ja q 3) (ji 0)).setCell (ja q 4) (ji 0)).cell? (ja q 3) = _ := (AC (by decide)).trans h3;have h4 : ((((w.setCell (ja q 1) (.bool false)).setCell (ja q 2) (ji m.li)).setCell (ja q 3) (ji 0)).setCell (ja q 4) (ji 0)).cell? (ja q 4) = some (ji 0) := Aj h4;have h5 : ((((w.setCell (ja q 1) (.bool false)).setCell (ja q 2) (ji m.li)).setCell (ja q 3) (ji 0)).setCell (ja q 4) (ji 0)).cell? (ja q 5) = _ := (AC (by decide)).trans h5;have h6 : ((((w.setCell (ja q 1) (.bool false)).setCell (ja q 2) (ji m.li)).setCell (ja q 3) (ji 0)).setCell (ja q 4) (ji 0)).cell? (ja q 6) = _ := (AC (by decide)).trans h6;have h0 : (((((w.setCell (ja q 1) (.bool false)).setCell (ja q 2) (ji m.li)).setCell (ja q 3) (ji 0)).setCell (ja q 4) (ji 0)).setCell (ja q 5) (ji 0)).cell? (ja q 0) = _ := (AC (by decide)).trans h0;have h1 : (((((w.setCell (ja q 1) (.bool false)).setCell (ja q 2) (ji m.li)).setCell (ja q 3) (ji 0)).setCell (ja q 4) (ji 0)).setCell (ja q 5) (ji 0)).cell? (ja q 1) = _ := (AC (by decide)).trans h1;have h2 : (((((w.setCell (ja q 1) (.bool false)).setCell (ja q 2) (ji m.li)).setCell (ja q 3) (ji 0)).setCell (ja q 4) (ji 0)).setCell (ja q 5) (ji 0)).cell? (ja q 2) = _ := (AC (by decide)).trans h2;have h3 : (((((w.setCell (ja q 1) (.bool false)).setCell (ja q 2) (ji m.li)).setCell (ja q 3) (ji 0)).setCell (ja q 4) (ji 0)).setCell (ja q 5) (ji 0)).cell? (ja q 3) = _ := (AC (by decide)).trans h3;have h4 : (((((w.setCell (ja q 1) (.bool false)).setCell (ja q 2) (ji m.li)).setCell (ja q 3) (ji 0)).setCell (ja q 4) (ji 0)).setCell (ja q 5) (ji 0)).cell? (ja q 4) = _ := (AC (by decide)).trans h4;have h5 : (((((w.setCell (ja q 1) (.bool false)).setCell (ja q 2) (ji m.li)).setCell (ja q 3) (ji 0)).setCell (ja q 4) (ji 0)).setCell (ja q 5) (ji 0)).cell? (ja q 5) = some (ji 0) := Aj h5;have h6 : (((((w.setCell (ja q 1) (.bool false)).setCell (ja q 2) (ji m.li)).setCell (ja q 3) (ji 0)).setCell (ja q 4) (ji 0)).setCell (ja q 5) (ji 0)).cell? (ja q 6) = _ := (AC (by decide)).trans h6;have h0 : ((((((w.setCell (ja q 1) (.bool false)).setCell (ja q 2) (ji m.li)).setCell (ja q 3) (ji 0)).setCell (ja q 4) (ji 0)).setCell (ja q 5) (ji 0)).setCell (ja q 6) (ji 0)).cell? (ja q 0) = _ := (AC (by decide)).trans h0;have h1 : ((((((w.setCell (ja q 1) (.bool false)).setCell (ja q 2) (ji m.li)).setCell (ja q 3) (ji 0)).setCell (ja q 4) (ji 0)).setCell (ja q 5) (ji 0)).setCell (ja q 6) (ji 0)).cell? (ja q 1) = _ := (AC (by decide)).trans h1;have h2 : ((((((w.setCell (ja q 1) (.bool false)).setCell (ja q 2) (ji m.li)).setCell (ja q 3) (ji 0)).setCell (ja q 4) (ji 0)).setCell (ja q 5) (ji 0)).setCell (ja q 6) (ji 0)).cell? (ja q 2) = _ := (AC (by decide)).trans h2;have h3 : ((((((w.setCell (ja q 1) (.bool false)).setCell (ja q 2) (ji m.li)).setCell (ja q 3) (ji 0)).setCell (ja q 4) (ji 0)).setCell (ja q 5) (ji 0)).setCell (ja q 6) (ji 0)).cell? (ja q 3) = _ := (AC (by decide)).trans h3;have h4 : ((((((w.setCell (ja q 1) (.bool false)).setCell (ja q 2) (ji m.li)).setCell (ja q 3) (ji 0)).setCell (ja q 4) (ji 0)).setCell (ja q 5) (ji 0)).setCell (ja q 6) (ji 0)).cell? (ja q 4) = _ := (AC (by decide)).trans h4;have h5 : ((((((w.setCell (ja q 1) (.bool false)).setCell (ja q 2) (ji m.li)).setCell (ja q 3) (ji 0)).setCell (ja q 4) (ji 0)).setCell (ja q 5) (ji 0)).setCell (ja q 6) (ji 0)).cell? (ja q 5) = _ := (AC (by decide)).trans h5;have h6 : ((((((w.setCell (ja q 1) (.bool false)).setCell (ja q 2) (ji m.li)).setCell (ja q 3) (ji 0)).setCell (ja q 4) (ji 0)).setCell (ja q 5) (ji 0)).setCell (ja q 6) (ji 0)).cell? (ja q 6) = some (ji 0) := Aj h6;refine ⟨h0, h1, h2, h3, h4, h5, h6, fun i => ?_⟩;rw [World.frozen?_setCell, World.frozen?_setCell, World.frozen?_setCell, World.frozen?_setCell, World.frozen?_setCell, World.frozen?_setCell];exact hf i
theorem LN (m : Mi) (q base : Nat) (ad : Option Addr) (cap : Nat) (w : World) (M : CO w q m (.slice ad m.lg.length cap)) (O : AD AS 8 64 base w (.slice ad m.lg.length cap) m.lg) (hq : ∀ g, (Value.slice ad m.lg.length cap).ownBlock = some g → g ≠ q) :
  Calls prog 143 #[.pointer (some (ja q 0))] w fun e w' => e = .returned (.tuple #[]) ∧ CO w' q ⟨false, m.li, 0, [], 0, 0, 0⟩ (.slice ad 0 cap) ∧ DF q (Value.slice ad m.lg.length cap).ownBlock w w' := by
 go_enter func143, ntmps143
 go_wp2_with fail
 go_at_call 163
 refine (KL m q base ad cap w M O hq).mono ?_;rintro e w1 ⟨rfl, M1, T1⟩;have M2 := M1.fallen;have T3 : DF q (Value.slice ad m.lg.length cap).ownBlock w ((((((w1.setCell (ja q 1) (.bool false)).setCell (ja q 2) (ji m.li)).setCell (ja q 3) (ji 0)).setCell (ja q 4) (ji 0)).setCell (ja q 5) (ji 0)).setCell (ja q 6) (ji 0)) := ((((((T1.set 1 _).set 2 _).set 3 _).set 4 _).set 5 _).set 6 _);clear T1 O hq M;obtain ⟨c0, c1, c2, c3, c4, c5, c6, fr⟩ := M1;have f1 := fr 1;have f2 := fr 2;have f3 := fr 3;have f4 := fr 4;have f5 := fr 5;have f6 := fr 6;clear fr;go_wp2
 go_end0
 exact ⟨rfl, M2, T3⟩
theorem IA (r : Rg) (w : World) : Calls prog 48 #[.agg #[ji r.ep, ji r.ow, ji r.pa]] w fun e w' => e = .returned (.bool (BR r)) ∧ Bw w w' := by
 obtain ⟨R, hR⟩ := AB (BR r);rw [← hR];replace hR : Hid _ := hR;obtain ⟨y, hy, B0⟩ := AI w (Obj.cells #[ji r.ep, ji r.ow, ji r.pa] 27);have A : An y w.heap.size r := by rw [hy]; exact An.new w _ r
 go_enter func48, ntmps48
 go_upto_region 1 with fail
 rw [← hy];clear hy;replace A := A.all;by_cases e1 : 1 ≤ r.ep
 ·
  have d1 : decide (1 ≤ r.ep) = true := decide_eq_true e1;by_cases e2 : r.ep ≤ 100000
  ·
   have d2 : decide (r.ep ≤ 100000) = true := decide_eq_true e2;by_cases e3 : r.ow = 0
   focus
    have d3 : decide (r.ow = 0) = true := decide_eq_true e3;have b3 : (r.ow == 0) = true := by simpa using e3
    have hN : Hid (R = Be r.pa) := by unfold Hid; rw [hR.out]; unfold BR; rw [decide_eq_true (⟨e1, e2⟩ : 1 ≤ r.ep ∧ r.ep ≤ 100000), decide_eq_true (show 0 ≤ r.ow ∧ r.ow ≤ 1 by omega)]; rfl
    replace e1 : Hid _ := e1;replace e2 : Hid _ := e2;replace e3 : Hid _ := e3
   rotate_left;focus
    have d3 : decide (r.ow = 0) = false := decide_eq_false e3;have b3 : (r.ow == 0) = false := by simpa using e3
    by_cases e4 : r.ow = 1
    focus
     have d4 : decide (r.ow = 1) = true := decide_eq_true e4;have b4 : (r.ow == 1) = true := by simpa using e4
     have hN : Hid (R = Be r.pa) := by unfold Hid; rw [hR.out]; unfold BR; rw [decide_eq_true (⟨e1, e2⟩ : 1 ≤ r.ep ∧ r.ep ≤ 100000), decide_eq_true (show 0 ≤ r.ow ∧ r.ow ≤ 1 by omega)]; rfl
     replace e1 : Hid _ := e1;replace e2 : Hid _ := e2;replace e3 : Hid _ := e3;replace e4 : Hid _ := e4
    rotate_left
    ·
     have d4 : decide (r.ow = 1) = false := decide_eq_false e4;have b4 : (r.ow == 1) = false := by simpa using e4
     have hN : Hid (R = false) := by unfold Hid; rw [hR.out]; unfold BR; rw [decide_eq_true (⟨e1, e2⟩ : 1 ≤ r.ep ∧ r.ep ≤ 100000), decide_eq_false (show ¬ (0 ≤ r.ow ∧ r.ow ≤ 1) by omega)]; rfl
     replace e1 : Hid _ := e1;replace e2 : Hid _ := e2;replace e3 : Hid _ := e3;replace e4 : Hid _ := e4;go_wp2
     go_ret
     exact ⟨by rw [hN.out]; rfl, B0⟩
   rotate_left;all_goals
    go_wp2_with fail
    go_at_call 92
    refine (Ez r.pa y).mono ?_;rintro e w' ⟨rfl, rfl⟩;go_wp2
    go_ret
    exact ⟨by rw [hN.out]; rfl, B0⟩
  have d2 : decide (r.ep ≤ 100000) = false := decide_eq_false e2;have hN : Hid (R = false) := by unfold Hid; rw [hR.out]; unfold BR; rw [decide_eq_false (show ¬ (1 ≤ r.ep ∧ r.ep ≤ 100000) by omega)]; rfl
  replace e1 : Hid _ := e1;replace e2 : Hid _ := e2;go_wp2
  go_ret
  exact ⟨by rw [hN.out]; rfl, B0⟩
 have d1 : decide (1 ≤ r.ep) = false := decide_eq_false e1;have hN : Hid (R = false) := by unfold Hid; rw [hR.out]; unfold BR; rw [decide_eq_false (show ¬ (1 ≤ r.ep ∧ r.ep ≤ 100000) by omega)]; rfl
 replace e1 : Hid _ := e1;go_wp2
 go_ret
 exact ⟨by rw [hN.out]; rfl, B0⟩
end Go.Proofs.YthgcbihhdbpbdaaGreat
namespace Go.Proofs
abbrev Tryz.muLink : Go.Conc.Locks.MuLink := { lock := 117, unlock := 118, ilock := 145, iunlock := 146, lockSlow := 168, unlockSlow := 171, disable := 164, enable := 166, acquire := 167, relMerge := 169, cas32 := 165, add32 := 170, tMutex := 139, tIMutex := 137, tPMutex := 175, tPIMutex := 194, tPI32 := 196, tUP := 198, tNoCopy := 134, tU32 := 135 }
theorem Tryz.muLib : Go.Conc.Locks.MuLib Tryz.prog Tryz.muLink :=
 ⟨Tryz.func117, Tryz.func118, Tryz.func145, Tryz.func146, Tryz.func164, Tryz.func166, Tryz.func167, Tryz.func169, Tryz.func165, Tryz.func170, Tryz.underlying137, Tryz.runUnderlying137, Tryz.sizeOf137, Tryz.isAgg137, Tryz.zeroValue137, Tryz.underlying139, Tryz.runUnderlying139, Tryz.sizeOf139, Tryz.isAgg139, Tryz.zeroValue139, Tryz.underlying175, Tryz.runUnderlying175, Tryz.sizeOf175, Tryz.isAgg175, Tryz.zeroValue175, Tryz.underlying194, Tryz.runUnderlying194, Tryz.sizeOf194, Tryz.isAgg194, Tryz.zeroValue194, Tryz.underlying196, Tryz.runUnderlying196, Tryz.sizeOf196, Tryz.isAgg196, Tryz.zeroValue196, Tryz.underlying198, Tryz.runUnderlying198, Tryz.sizeOf198, Tryz.isAgg198, Tryz.zeroValue198, Tryz.underlying134, Tryz.runUnderlying134, Tryz.sizeOf134, Tryz.isAgg134, Tryz.zeroValue134, Tryz.underlying21, Tryz.runUnderlying21, Tryz.sizeOf21, Tryz.isAgg21, Tryz.zeroValue21, (by kernel_rfl)⟩
end Go.Proofs
namespace Go.Proofs.YthgcbihhdbpbdaaGreat
open Go.ChangeShapes Go.WideShapes Go.ChangeAt Go.RowKit
open Go.ChangeMaps (open_string shut_string)
set_option linter.unusedVariables false
set_option maxRecDepth 100000
set_option maxHeartbeats 32000000
set_option linter.unusedSimpArgs false
open Go.Proofs.Tryz
attribute [local go_sem] ji ja
open Go.MuLone
structure Cq (w : World) (q : Nat) (l : Int) (r : Rg) : Prop where
 c0 : w.cell? (ja q 0) = some (ji r.ep)
 c1 : w.cell? (ja q 1) = some (.int .i32 l)
 c2 : w.cell? (ja q 2) = some (.int .u32 0)
 c3 : w.cell? (ja q 3) = some (ji r.ow)
 c4 : w.cell? (ja q 4) = some (ji r.pa)
 fr : ∀ i, w.frozen? (ja q i) = false
theorem Cq.all {w : World} {q : Nat} {l : Int} {r : Rg} (h : Cq w q l r) : w.cell? (ja q 0) = some (ji r.ep) ∧ w.cell? (ja q 1) = some (.int .i32 l) ∧ w.cell? (ja q 2) = some (.int .u32 0) ∧ w.cell? (ja q 3) = some (ji r.ow) ∧ w.cell? (ja q 4) = some (ji r.pa) := ⟨h.c0, h.c1, h.c2, h.c3, h.c4⟩
theorem Cq.keep {w w' : World} {q : Nat} {l : Int} {r : Rg} (h : Cq w q l r) (k : w'.heap[q]? = w.heap[q]?) : Cq w' q l r :=
 ⟨(World.cell?_of_block (a := (ja q 0)) k).trans h.c0, (World.cell?_of_block (a := (ja q 1)) k).trans h.c1, (World.cell?_of_block (a := (ja q 2)) k).trans h.c2, (World.cell?_of_block (a := (ja q 3)) k).trans h.c3, (World.cell?_of_block (a := (ja q 4)) k).trans h.c4, fun i => (World.frozen?_of_block (a := (ja q i)) k).trans (h.fr i)⟩
theorem Cq.lt {w : World} {q : Nat} {l : Int} {r : Rg} (h : Cq w q l r) : q < w.heap.size := World.block_lt_of_cell? w _ h.c0
theorem Cq.below {w w' : World} {q n : Nat} {l : Int} {r : Rg} (h : Cq w q l r) (k : Below n w w') (hq : q < n) : Cq w' q l r := h.keep (k.block q hq)
theorem Cq.lock {w : World} {q : Nat} {l : Int} {r : Rg} (h : Cq w q l r) (l' : Int) : Cq (w.setCell (ja q 1) (.int .i32 l')) q l' r := by
 obtain ⟨h0, h1, h2, h3, h4, hf⟩ := h;refine ⟨(AC (by decide)).trans h0, Aj h1, (AC (by decide)).trans h2, (AC (by decide)).trans h3, (AC (by decide)).trans h4, fun i => ?_⟩;rw [World.frozen?_setCell]; exact hf i
theorem Cq.setEp {w : World} {q : Nat} {l : Int} {r : Rg} (h : Cq w q l r) (x : Int) : Cq (w.setCell (ja q 0) (ji x)) q l ⟨x, r.ow, r.pa⟩ := by
 obtain ⟨h0, h1, h2, h3, h4, hf⟩ := h;refine ⟨Aj h0, (AC (by decide)).trans h1, (AC (by decide)).trans h2, (AC (by decide)).trans h3, (AC (by decide)).trans h4, fun i => ?_⟩;rw [World.frozen?_setCell]; exact hf i
theorem K9 (x : Int) (q : Nat) (w : World) (h : w.cell? (ja q 0) = some (ji x)) :
  Calls prog 147 #[.pointer (some (ja q 0))] w fun e w' => e = .returned (ji x) ∧ w' = w := by
 have hl := run_call_load (P := prog) func172 (by kernel_rfl) (by kernel_rfl) (by kernel_rfl) .i64 (by kernel_rfl) h;go_enter func147, ntmps147
 go_wp2
 go_ret
 exact ⟨rfl, rfl⟩
theorem J5 (x : Int) (u : Value) (q : Nat) (w : World) (h : w.cell? (ja q 0) = some u) (hz : w.frozen? (ja q 0) = false) :
  Calls prog 116 #[.pointer (some (ja q 0)), ji x] w fun e w' => e = .returned (.tuple #[]) ∧ w' = w.setCell (ja q 0) (ji x) := by
 have hl := run_call_store (P := prog) func144 (by kernel_rfl) (by kernel_rfl) (by kernel_rfl) (by kernel_rfl) (k := .i64) (y := x) h hz;go_enter func116, ntmps116
 go_wp2
 exact bodyPost_end (results_none rfl _ _ _) rfl ⟨rfl, rfl⟩
theorem KK (x : Int) (q : Nat) (w : World) (h : w.cell? (ja q 0) = some (ji x)) :
  Calls prog 119 #[.pointer (some (ja q 0))] w fun e w' => e = .returned (ji x) ∧ w' = w := by
 go_enter func119, ntmps119
 go_wp2_with fail
 go_at_call 147
 refine (K9 x q w h).mono ?_;rintro e w' ⟨rfl, rfl⟩;go_wp2
 go_ret
 exact ⟨rfl, rfl⟩
theorem LD (r : Rg) (s ep : Int) (q : Nat) (w : World) (G : Cq w q 0 r) :
  Calls prog 73 #[.pointer (some (ja q 0)), ji s, ji ep] w fun e w' => e = .returned (.bool (decide (r.ow = s) && decide (r.ep = ep))) ∧ Cq w' q 0 r ∧ DF q none w w' := by
 obtain ⟨R, hR⟩ := AB (decide (r.ow = s) && decide (r.ep = ep));rw [← hR];replace hR : Hid _ := hR;go_enter_defers func73, ntmps73
 go_wp2_with fail
 go_at_call 117
 refine (lock_free Tryz.muLib (ja q 1) w G.c1 (G.fr 1)).mono ?_;rintro e w' ⟨rfl, rfl⟩;obtain ⟨v, hv⟩ := AB (w.setCell (ja q 1) (.int .i32 1));have G1 : Cq v q 1 r := by rw [hv]; exact G.lock 1
 have T1 : DF q none w v := by rw [hv]; exact (DF.refl _ _ _).set 1 _
 rw [← hv];clear hv G;have c0 := G1.c0;have c3 := G1.c3;by_cases e1 : r.ow = s
 rotate_left;focus
  have h1 : decide (r.ow = s) = false := decide_eq_false e1;have hN : Hid (R = false) := by unfold Hid; rw [hR.out, h1]; rfl
 rotate_left;focus
  have h1 : decide (r.ow = s) = true := decide_eq_true e1;have hN : Hid (R = decide (r.ep = ep)) := by unfold Hid; rw [hR.out, h1]; rfl
  replace e1 : Hid _ := e1;go_wp2_with fail
  go_at_call 119
  refine (KK r.ep q v c0).mono ?_;rintro e w' ⟨rfl, rfl⟩
 rotate_left;all_goals
  go_wp2
  refine leaves_cons (f := 118) (args := #[.pointer (some (ja q 1))]) (by simp) (by simp [go_sem]) ?_;refine (unlock_deferred Tryz.muLib (ja q 1) .returning _ G1.c1 (G1.fr 1)).mono ?_;rintro e u' w'' ⟨rfl, rfl, rfl⟩;exact ⟨_, results_tmp rfl _ _ _, by rw [hN.out]; rfl, G1.lock 0, T1.set 1 _⟩
end Go.Proofs.YthgcbihhdbpbdaaGreat
