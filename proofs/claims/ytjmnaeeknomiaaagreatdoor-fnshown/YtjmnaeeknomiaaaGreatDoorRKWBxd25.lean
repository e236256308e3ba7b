import Derived.Test.YtjmnaeeknomiaaaGreatDoorRM15
import Derived.Test.YtjmnaeeknomiaaaGreatDoorRKWBxd21
namespace Go.Proofs.YtjmnaeeknomiaaaGreatDoor
open Go.ChangeShapes Go.WideShapes Go.ChangeAt Go.RowKit
open Go.ChangeMaps (open_string shut_string)
set_option linter.unusedVariables false
set_option maxRecDepth 100000
set_option maxHeartbeats 32000000
set_option linter.unusedSimpArgs false
open Go.Proofs.Tryz
attribute [local go_sem] ji ja bc
theorem Ld (most : Nat) (hm : most ≤ 200) {cb : Nat} {ad : Option Addr} {len cap : Nat} {f : Nat → Int} (w : World) (hs : At w cb ad len cap f) (hcb : cb < w.heap.size) : Calls prog 127 #[.pointer (some (ja cb 0)), ji (most : Int)] w fun e w' => Ke w cb ad len cap f e w' := by
 obtain ⟨i1, hi, hz0, hz1, hz2⟩ := info_parts K8;obtain ⟨y0, hy0⟩ := AC ((w.alloc (Obj.cells #[ji 0, ji 0, ji 0, ji 0, ji 0, .slice none 0 0, .slice none 0 0, .slice none 0 0, .slice none 0 0, .slice none 0 0] 63)).alloc (Obj.cells #[ji 0, ji 0, ji 0, ji 0, ji 0, .slice none 0 0, .slice none 0 0, .slice none 0 0, .slice none 0 0, .slice none 0 0] 63));have D : DV w cb ad len cap y0 := by rw [hy0]; exact ((DV.start hs).alloc _).alloc _
 have Z4 : Aj y0 w.heap.size := by rw [hy0]; unfold Aj; have h1 := Cl w (Obj.cells #[ji 0, ji 0, ji 0, ji 0, ji 0, .slice none 0 0, .slice none 0 0, .slice none 0 0, .slice none 0 0, .slice none 0 0] 63); have k2 : Below (w.alloc (Obj.cells #[ji 0, ji 0, ji 0, ji 0, ji 0, .slice none 0 0, .slice none 0 0, .slice none 0 0, .slice none 0 0, .slice none 0 0] 63)).heap.size (w.alloc (Obj.cells #[ji 0, ji 0, ji 0, ji 0, ji 0, .slice none 0 0, .slice none 0 0, .slice none 0 0, .slice none 0 0, .slice none 0 0] 63)) ((w.alloc (Obj.cells #[ji 0, ji 0, ji 0, ji 0, ji 0, .slice none 0 0, .slice none 0 0, .slice none 0 0, .slice none 0 0, .slice none 0 0] 63)).alloc (Obj.cells #[ji 0, ji 0, ji 0, ji 0, ji 0, .slice none 0 0, .slice none 0 0, .slice none 0 0, .slice none 0 0, .slice none 0 0] 63)) := Ax _; exact (k2.block _ (by simp)).trans h1
 have Z6 : Aj y0 (w.heap.size + 1) := by rw [hy0]; unfold Aj; have h1 := Cl (w.alloc (Obj.cells #[ji 0, ji 0, ji 0, ji 0, ji 0, .slice none 0 0, .slice none 0 0, .slice none 0 0, .slice none 0 0, .slice none 0 0] 63)) (Obj.cells #[ji 0, ji 0, ji 0, ji 0, ji 0, .slice none 0 0, .slice none 0 0, .slice none 0 0, .slice none 0 0, .slice none 0 0] 63); rw [show (w.alloc (Obj.cells #[ji 0, ji 0, ji 0, ji 0, ji 0, .slice none 0 0, .slice none 0 0, .slice none 0 0, .slice none 0 0, .slice none 0 0] 63)).heap.size = w.heap.size + 1 from by simp] at h1; exact h1
 go_enter func127, ntmps127
 go_wp2_with fail
 go_at_call 56
 rw [← hy0];clear hy0;refine (BD (D.src hs) 5 (by decide) (by decide)).mono ?_;rintro e y1 ⟨a, rfl, a0, a1, s_, g_⟩;have D := D.step s_ g_;have Z4 := Z4.keep (g_.block _ Z4.lt_ (by simp; omega));have Z6 := Z6.keep (g_.block _ Z6.lt_ (by simp; omega));clear s_ g_;have hwa : IntKind.i64.wrap (1 + a) = 1 + a := by rw [IntKind.wrap_i64]; omega
 go_wp2_with fail
 go_at_call 56
 refine (BD (D.src hs) 4 (by decide) (by decide)).mono ?_;rintro e y2 ⟨b, rfl, b0, b1, s_, g_⟩;have D := D.step s_ g_;have Z4 := Z4.keep (g_.block _ Z4.lt_ (by simp; omega));have Z6 := Z6.keep (g_.block _ Z6.lt_ (by simp; omega));clear s_ g_;have hwb : IntKind.i64.wrap (1 + b) = 1 + b := by rw [IntKind.wrap_i64]; omega
 have hnk : Au (1 + a) (1 + b) = true := by unfold Au; simp only [Bool.and_eq_true, decide_eq_true_eq]; omega
 go_wp2_with fail
 go_at_call 132
 clear hwa hwb;refine (LP (1 + a) (1 + b) y2).mono ?_;rintro e y3 ⟨s, ⟨rfl, hsp, hsm⟩, hsi, kq⟩;have hso : Hid (BA s.p = true) := by unfold Hid; rw [hsp]; unfold Ff; rw [if_pos hnk]; exact Hp hnk
 clear hsp hnk;have D := D.later8 kq;have Z4 := Z4.keep (kq.block _ Z4.lt_);have Z6 := Z6.keep (kq.block _ Z6.lt_);clear kq a0 a1 b0 b1;go_upto_region 2 with fail
 obtain ⟨y4, hy4, kq⟩ := AM y3 (Obj.cells (bc s) 63);rw [← hy4];have A7 : AS y4 y3.heap.size s := by rw [hy4]; exact AS.new y3 _ s
 clear hy4;have D := D.later8 kq;have Z4 := Z4.keep (kq.block _ Z4.lt_);have l6 : w.heap.size + 1 < y3.heap.size := Z6.lt_;have Z6 := Z6.keep (kq.block _ Z6.lt_);have VS := (hsi.v hsm).later kq;have hn0 := hsi.tn;have hn1 := hsi.nn;have hn2 := hsi.gn;have hn3 := hsi.ic;have hn4 := hsi.sn;have hnL := hsi.t.nil0;clear hsi kq hsm;obtain ⟨p7, hp7⟩ := AC y3.heap.size;rw [← hp7] at A7 l6 ⊢;clear hp7;have a0 := A7.at_.all;go_wp2_with fail
 go_at_call 133
 clear a0;refine (GO s y4 VS hn1 hn2 hn3 hn4 hnL).mono ?_;rintro e y5 ⟨x, rfl, hxp, hx2, O, kq⟩;have hxo : Hid (BA x.p = true) := by unfold Hid; rw [hxp]; exact hso.out
 clear hxp hx2 VS hn0 hn1 hn2 hn3 hn4 hnL;have D := D.later8 kq;have Z4 := Z4.keep (kq.block _ Z4.lt_);have Z6 := Z6.keep (kq.block _ Z6.lt_);have l7 := A7.lt;have A7 := A7.below kq A7.lt;have O := O.base (b2 := w.heap.size) (by omega);have sz5 := kq.size;clear kq;go_upto_region 3 with fail
 obtain ⟨y6, hy6, kq⟩ := AM y5 (Obj.cells (bc x) 63);rw [← hy6];have A9 : AS y6 y5.heap.size x := by rw [hy6]; exact AS.new y5 _ x
 clear hy6;have R0 : Cj w cb ad len cap p7 y5.heap.size s x y6 := ⟨D.later8 kq, Z4.keep (kq.block _ Z4.lt_), Z6.keep (kq.block _ Z6.lt_), A7.below kq A7.lt, A9, O.later kq, l6, by omega⟩;obtain ⟨p9, hp9⟩ := AC y5.heap.size;rw [← hp9] at R0 ⊢;clear D Z4 Z6 A7 A9 O kq l6 l7 sz5 hp9;have l9 := R0.A9.lt;go_upto_region 4 with fail
 obtain ⟨y7, hy7, kq⟩ := AM y6 (Obj.cells #[] 210);rw [← hy7];have F0 : AA DX 10 210 (p9 + 1) y7 (.slice (some (ja y6.heap.size 0)) 0 0) [] := by rw [hy7]; exact (AA.empty y6).base (by omega)
 have R1 := R0.later kq;clear hy7 kq R0 l9;have hwm : IntKind.i64.wrap ((most : Int) + 1) = (most : Int) + 1 := by rw [IntKind.wrap_i64]; omega
 go_wp2_with fail
 go_at_call 56
 refine (BD (R1.D.src hs) ((most : Int) + 1) (by omega) (by omega)).mono ?_;rintro e y8 ⟨nv, rfl, n0, n1, s_, g_⟩;have R2 := R1.step hcb s_ g_;have F2 := F0.grown g_ (by have := R1.h7; have := R1.h9; omega);clear s_ g_ R1 F0 hwm;obtain ⟨n, rfl⟩ : ∃ n : Nat, nv = (n : Int) := ⟨nv.toNat, by omega⟩;have hn3 : n ≤ 300 := by omega
 clear n0 n1;go_upto_region 6 with fail
 go_loopw [10, 12] (fun v i wr => ∃ (k : Nat) (P : List De) (x : AF), k ≤ n ∧ P.length = k ∧ i = .int .i64 (k : Int) ∧ AA DX 10 210 (p9 + 1) wr v P ∧ Cj w cb ad len cap p7 p9 s x wr ∧ Hid (BA x.p = true)) (fun _ i _ => n - (intOf i).toNat)
 case atStart => exact ⟨0, [], x, by omega, rfl, rfl, F2, R2, hxo⟩
 case round =>
  obtain ⟨k, P, x, hk, hPl, rfl, F, R, hxo⟩ := hrel;clear R2 F2;have hpl : Hid (P.length = k) := hPl;clear hPl;by_cases hlt : (k : Int) < (n : Int)
  ·
   obtain ⟨hpo, hne, how⟩ := JW hxo.out;have a0 := R.A9.at_.all;go_wp2_with fail
   go_at_call 134
   clear a0;refine (J0 x _ (R.D.src hs) R.D.cur.lt hpo hne how).mono ?_;rintro e z1 ⟨d, rfl, s_, g_⟩;have R := R.step hcb s_ g_;have F := F.grown g_ (by have := R.h7; have := R.h9; omega);clear s_ g_ hpo hne how;go_upto_region 9 with fail
   obtain ⟨z2, hz2_, kq⟩ := AM z1 (Obj.cells #[ji d.k, ji d.a, ji d.x.k, ji d.x.q, ji d.x.r, ji d.x.c, ji d.x.b, ji d.x.p, ji d.x.h, .bool d.x.up] 210);rw [← hz2_];have B : Dg z2 z1.heap.size d := by rw [hz2_]; exact ⟨Bt.new z1 _ d, fun i => by simp [go_sem]⟩
   clear hz2_;have F1_ := F.lt;have R := R.later kq;have F := F.later kq;have nf : ∀ g, u10.ownBlock = some g → g ≠ z1.heap.size := fun g e => by have := (F1_ g e).2; omega
   obtain ⟨p13, hp13⟩ := AC z1.heap.size;rw [← hp13] at B nf ⊢;clear hp13 kq;have e0 := B.at_.all;obtain ⟨z3, hz3, k3⟩ := AM z2 (Obj.cells #[ji d.k, ji d.a, ji d.x.k, ji d.x.q, ji d.x.r, ji d.x.c, ji d.x.b, ji d.x.p, ji d.x.h, .bool d.x.up] 210);have V3 : AI DX z3 (some (ja z2.heap.size 0)) [d] := by rw [hz3]; exact AI.oneDe z2 _ d
   have F3 := F.later k3;have R3 := R.later k3;have B3 : Dg z3 p13 d := B.keep (k3.block _ B.lt);have S3 : p9 + 1 ≤ z3.heap.size := R3.A9.lt;go_wp2_with (first | (at_builtin; refine En JV JF rfl _ _ 201 rfl (p9 + 1) 210 i1 (.agg #[ji 0, ji 0, ji 0, ji 0, ji 0, ji 0, ji 0, ji 0, ji 0, .bool false]) 80 underlying201 hi hz0 hz1 hz2 rfl (by decide) (by decide) _ P rfl ?z0 (some (ja z2.heap.size 0)) 1 [d] rfl (fun e => by cases e) ?z1 ?z2 ?z3 ?_))
   case z0 => rw [← hz3]; exact F3
   case z1 => rw [← hz3]; exact V3
   try case z2 => have := hpl.out; simp; omega
   case z3 => rw [← hz3]; exact S3
   rw [← hz3];clear e0 hz3;intro v4 z4 F4 g4 hob;clear hob;have R4 := R3.row hcb F3 g4;have B4 : Dg z4 p13 d := B3.keep (g4.block _ B3.lt (fun e => nf p13 e.symm rfl));have hpl4 : Hid ((P ++ [d]).length = k + 1) := by unfold Hid; rw [List.length_append]; have := hpl.out; simp; omega
   obtain ⟨P4, hP4⟩ := AC (P ++ [d]);rw [← hP4] at F4 hpl4;clear hP4 F F3 g4 R R3 B B3 V3 k3 S3 nf hpl;have sz4 := R4.A9.lt;have R := R4;go_upto_region 10 with fail
   refine An (fun Y => Cj w cb ad len cap p7 p9 s x Y ∧ Dg Y p13 d ∧ AA DX 10 210 (p9 + 1) Y v4 P4) fun u0 kd => ?_
   have R := R.later kd;have B := B4.keep (kd.block _ B4.lt);have F := F4.later kd;clear kd R4 B4 F4 sz4;have hS : Cj w cb ad len cap p7 p9 s x u0 ∧ Dg u0 p13 d ∧ AA DX 10 210 (p9 + 1) u0 v4 P4 := ⟨R, B, F⟩;refine tw 0 46 (.agg (bc x)) ?_ (hy := by intro Y hSw; have X := (hSw.1.A9.at_).all; go_simp);refine tw 2 48 (.agg #[ji d.k, ji d.a, ji d.x.k, ji d.x.q, ji d.x.r, ji d.x.c, ji d.x.b, ji d.x.p, ji d.x.h, .bool d.x.up]) ?_ (hy := by intro Y hSw; have X := (hSw.2.1.at_).all; go_simp);have hb0 : Bw u0 u0 := Below.refl _ _;have l9u := R.A9.lt;refine wpAnyH_all (rs := [1, 7]) (by kernel_rfl) (by simp) ?_;intro i hi; rcases (by simpa using hi : i = 1 ∨ i = 7) with rfl | rfl
   focus
    refine Ac rfl fun Kz hKz => ?_
    have OX := R.O.later hb0;have VX := OX.okV hxo.out;go_simp
    go_at_call 133
    refine (GO x u0 VX (OX.n.capn) (OX.g.capn) (OX.i.capn) (OX.s.capn) (fun i hi => (OX.l i hi).capn)).mono ?_;rintro e u1 ⟨x2, rfl, hx2p, h2l_, O2, kc⟩;clear VX OX h2l_;have szq := kc.size;have szW := hb0.size;have hb1 : Bw u0 u1 := hb0.trans (kc.mono szW);have hx2o : Hid (BA x2.p = true) := by unfold Hid; rw [hx2p]; exact hxo.out
    obtain ⟨bb, hbb⟩ := AC u0.heap.size;have hWb : u0.heap.size ≤ bb := by rw [hbb]; exact szW
    have sbb : bb ≤ u1.heap.size := by rw [hbb]; exact szq
    rw [← hbb] at O2;replace hx2p : Hid _ := hx2p;clear kc hbb szq szW;refine hKz _ _ ⟨⟨R.later hb1, B.keep (hb1.block _ B.lt), F.later hb1⟩, ?_⟩;clear hKz Kz hi;refine wpAnyH_all (rs := [3, 7]) (by kernel_rfl) (by simp) ?_;intro i hi; rcases (by simpa using hi : i = 3 ∨ i = 7) with rfl | rfl
    focus
     refine Ac rfl fun Kz hKz => ?_
     go_simp
     go_at_call 135
     refine (Gu x2 d u1 bb O2 sbb hx2o.out).mono ?_;rintro e u2 ⟨nx, c, rfl, hone, O3, ko, pz⟩;have hb2 : Bw u0 u2 := hb1.trans (ko.mono hWb);have hone : Hid ((nx.p, c) = DE x.p d) := by unfold Hid; rw [hone, hx2p.out]
     clear ko pz O2 sbb hx2o hx2p;refine hKz _ _ ⟨⟨R.later hb2, B.keep (hb2.block _ B.lt), F.later hb2⟩, ?_⟩;clear hKz Kz hi;have hS8 : Cj w cb ad len cap p7 p9 s x u2 ∧ Dg u2 p13 d ∧ AA DX 10 210 (p9 + 1) u2 v4 P4 := ⟨R.later hb2, B.keep (hb2.block _ B.lt), F.later hb2⟩;refine tw 4 45 (.tuple #[.agg (bc nx), ji c]) ?_;refine tw 5 50 (.agg (bc nx)) ?_;refine tw 6 51 (ji c) ?_;refine w1 7 fun Kz hKz => ?_
     go_simp
     obtain ⟨u3, hal, ka⟩ := AM u2 (Obj.cells #[ji 0, ji 0, ji 0, ji 0, ji 0, .slice none 0 0, .slice none 0 0, .slice none 0 0, .slice none 0 0, .slice none 0 0] 63);have ZN : Aj u3 u2.heap.size := by rw [hal]; exact Cl u2 _
     rw [← hal];have hq14 := hb2.size;have hb3 : Bw u0 u3 := hb2.trans (ka.mono hq14);have O3 := O3.later ka;obtain ⟨p14, h14⟩ := AC u2.heap.size;have hp14 : u0.heap.size ≤ p14 := by rw [h14]; exact hq14
     rw [← h14] at ZN ⊢;clear hal ka h14 hq14;refine hKz _ _ ⟨⟨R.later hb3, B.keep (hb3.block _ B.lt), F.later hb3⟩, ?_⟩;clear hKz Kz
    rotate_left;focus
     refine Ac rfl fun Kz hKz => ?_
     go_simp
     obtain ⟨u2, hal, ka⟩ := AM u1 (Obj.cells #[ji 0, ji 0, ji 0, ji 0, ji 0, .slice none 0 0, .slice none 0 0, .slice none 0 0, .slice none 0 0, .slice none 0 0] 63);have ZN : Aj u2 u1.heap.size := by rw [hal]; exact Cl u1 _
     rw [← hal];have hq14 := hb1.size;have hb2 : Bw u0 u2 := hb1.trans (ka.mono hq14);have O2 := O2.later ka;have sbb := Nat.le_trans sbb ka.size;obtain ⟨p14, h14⟩ := AC u1.heap.size;have hp14 : u0.heap.size ≤ p14 := by rw [h14]; exact hq14
     rw [← h14] at ZN ⊢;clear hal ka h14 hq14;refine hKz _ _ ⟨⟨R.later hb2, B.keep (hb2.block _ B.lt), F.later hb2⟩, ?_⟩;clear hKz Kz hi;refine w1 3 fun Kz hKz => ?_
     go_simp
     go_at_call 135
     refine (Gu x2 d u2 bb O2 sbb hx2o.out).mono ?_;rintro e u3 ⟨nx, c, rfl, hone, O3, ko, pz⟩;have hb3 : Bw u0 u3 := hb2.trans (ko.mono hWb);have hone : Hid ((nx.p, c) = DE x.p d) := by unfold Hid; rw [hone, hx2p.out]
     have ZN := pz.2 _ ZN;clear ko pz O2 sbb hx2o hx2p;refine hKz _ _ ⟨⟨R.later hb3, B.keep (hb3.block _ B.lt), F.later hb3⟩, ?_⟩;clear hKz Kz;have hS8 : Cj w cb ad len cap p7 p9 s x u3 ∧ Dg u3 p13 d ∧ AA DX 10 210 (p9 + 1) u3 v4 P4 := ⟨R.later hb3, B.keep (hb3.block _ B.lt), F.later hb3⟩;refine tw 4 45 (.tuple #[.agg (bc nx), ji c]) ?_;refine tw 5 50 (.agg (bc nx)) ?_;refine tw 6 51 (ji c) ?_
    rotate_left
   rotate_left 2;focus
    refine Ac rfl fun Kz hKz => ?_
    go_simp
    obtain ⟨u1, hal, ka⟩ := AM u0 (Obj.cells #[ji 0, ji 0, ji 0, ji 0, ji 0, .slice none 0 0, .slice none 0 0, .slice none 0 0, .slice none 0 0, .slice none 0 0] 63);have ZN : Aj u1 u0.heap.size := by rw [hal]; exact Cl u0 _
    rw [← hal];have hq14 := hb0.size;have hb1 : Bw u0 u1 := hb0.trans (ka.mono hq14);obtain ⟨p14, h14⟩ := AC u0.heap.size;have hp14 : u0.heap.size ≤ p14 := by rw [h14]; exact hq14
    rw [← h14] at ZN ⊢;clear hal ka h14 hq14;refine hKz _ _ ⟨⟨R.later hb1, B.keep (hb1.block _ B.lt), F.later hb1⟩, ?_⟩;clear hKz Kz hi;refine w1 1 fun Kz hKz => ?_
    have OX := R.O.later hb1;have VX := OX.okV hxo.out;go_simp
    go_at_call 133
    refine (GO x u1 VX (OX.n.capn) (OX.g.capn) (OX.i.capn) (OX.s.capn) (fun i hi => (OX.l i hi).capn)).mono ?_;rintro e u2 ⟨x2, rfl, hx2p, h2l_, O2, kc⟩;clear VX OX h2l_;have szq := kc.size;have szW := hb1.size;have hb2 : Bw u0 u2 := hb1.trans (kc.mono szW);have hx2o : Hid (BA x2.p = true) := by unfold Hid; rw [hx2p]; exact hxo.out
    obtain ⟨bb, hbb⟩ := AC u1.heap.size;have hWb : u0.heap.size ≤ bb := by rw [hbb]; exact szW
    have sbb : bb ≤ u2.heap.size := by rw [hbb]; exact szq
    have ZN := ZN.keep (kc.block _ ZN.lt_);rw [← hbb] at O2;replace hx2p : Hid _ := hx2p;clear kc hbb szq szW;refine hKz _ _ ⟨⟨R.later hb2, B.keep (hb2.block _ B.lt), F.later hb2⟩, ?_⟩;clear hKz Kz;refine w1 3 fun Kz hKz => ?_
    go_simp
    go_at_call 135
    refine (Gu x2 d u2 bb O2 sbb hx2o.out).mono ?_;rintro e u3 ⟨nx, c, rfl, hone, O3, ko, pz⟩;have hb3 : Bw u0 u3 := hb2.trans (ko.mono hWb);have hone : Hid ((nx.p, c) = DE x.p d) := by unfold Hid; rw [hone, hx2p.out]
    have ZN := pz.2 _ ZN;clear ko pz O2 sbb hx2o hx2p;refine hKz _ _ ⟨⟨R.later hb3, B.keep (hb3.block _ B.lt), F.later hb3⟩, ?_⟩;clear hKz Kz;have hS8 : Cj w cb ad len cap p7 p9 s x u3 ∧ Dg u3 p13 d ∧ AA DX 10 210 (p9 + 1) u3 v4 P4 := ⟨R.later hb3, B.keep (hb3.block _ B.lt), F.later hb3⟩;refine tw 4 45 (.tuple #[.agg (bc nx), ji c]) ?_;refine tw 5 50 (.agg (bc nx)) ?_;refine tw 6 51 (ji c) ?_
   rotate_left;all_goals
    refine w1 8 fun Kz hKz => ?_
    have ZB := ZN.box;have r0 := Ad ZB;go_simp
    clear r0;obtain ⟨v9, hv9⟩ := AC ((((((((((u3.setCell (ja p14 0) (ji nx.id)).setCell (ja p14 1) (ji nx.po)).setCell (ja p14 2) (ji nx.rg.ep)).setCell (ja p14 3) (ji nx.rg.ow)).setCell (ja p14 4) (ji nx.rg.pa)).setCell (ja p14 5) (.slice nx.aT nx.two.length nx.cT)).setCell (ja p14 6) (.slice nx.aN nx.net.length nx.cN)).setCell (ja p14 7) (.slice nx.aG nx.ga.length nx.cG)).setCell (ja p14 8) (.slice nx.aL nx.ln.length nx.cL)).setCell (ja p14 9) (.slice nx.aS nx.sd.length nx.cS));have N : AS v9 p14 nx := by rw [hv9]; exact ZN.box.put nx
    have O4 : AL bb v9 nx := by rw [hv9]; exact O3.keepZ ZN (fun g_ hg_ => Ak u3 p14 g_ nx hg_)
    have hb9 : Bw u0 v9 := by rw [hv9]; exact CO nx hb3 hp14
    rw [← hv9];clear hv9 ZN O3;refine hKz _ _ ⟨⟨R.later hb9, B.keep (hb9.block _ B.lt), F.later hb9⟩, ?_⟩;clear hKz Kz;have hS9 : Cj w cb ad len cap p7 p9 s x v9 ∧ Dg v9 p13 d ∧ AA DX 10 210 (p9 + 1) v9 v4 P4 := ⟨R.later hb9, B.keep (hb9.block _ B.lt), F.later hb9⟩;refine tw 9 15 (ji c) ?_;refine Ag ?_;have R := R.later hb9;have F := F.later hb9;have l9 : p9 < bb := by omega
    clear hb9 hS hS8 hS9 B;by_cases hc : c = 0
    ·
     subst hc;have a0 := N.at_.all;go_wp2_with fail
     go_at_call 136
     clear a0;have VN : Ck v9 nx := O4.smV (n := 62) (by have h1 := (BV.of hxo.out).one d; rw [← hone.out] at h1; exact h1) (by decide);refine (IR nx v9 VN).mono ?_;rintro e v10 ⟨rfl, kq⟩;have R := R.later kq;have F := F.later kq;have O4 := O4.later kq;have N := N.below kq N.lt;clear kq VN;obtain ⟨ob, hob⟩ : ∃ b, BA nx.p = b := ⟨_, rfl⟩;rw [hob];cases ob
     ·
      replace hob : Hid _ := hob;go_wp2
      go_roundw
      case rel => exact ⟨k + 1, P4, x, by omega, hpl4.out, by go_num, F, R, hxo⟩
      case measure => simp [intOf]; omega
     ·
      have a0 := N.at_.all;obtain ⟨⟨r0, r1, r2, r3, r4, r5, r6, r7, r8, r9⟩, rf⟩ := R.A9;obtain ⟨g0, g1, g2, g3, g4, g5, g6, g7, g8, g9⟩ := CX rf;clear rf;replace hob : Hid _ := hob;go_upto_region 7 with fail
      clear a0 r0 r1 r2 r3 r4 r5 r6 r7 r8 r9 g0 g1 g2 g3 g4 g5 g6 g7 g8 g9;obtain ⟨v11, hv11⟩ := AC ((((((((((v10.setCell (ja p9 0) (ji nx.id)).setCell (ja p9 1) (ji nx.po)).setCell (ja p9 2) (ji nx.rg.ep)).setCell (ja p9 3) (ji nx.rg.ow)).setCell (ja p9 4) (ji nx.rg.pa)).setCell (ja p9 5) (.slice nx.aT nx.two.length nx.cT)).setCell (ja p9 6) (.slice nx.aN nx.net.length nx.cN)).setCell (ja p9 7) (.slice nx.aG nx.ga.length nx.cG)).setCell (ja p9 8) (.slice nx.aL nx.ln.length nx.cL)).setCell (ja p9 9) (.slice nx.aS nx.sd.length nx.cS));have R9 : Cj w cb ad len cap p7 p9 s nx v11 := by rw [hv11]; exact R.put hcb nx O4 l9
      have F9 : AA DX 10 210 (p9 + 1) v11 v4 P4 := by rw [hv11]; exact F.keep (fun g e => Ak v10 p9 g nx (by have := (F.lt g e).1; omega))
      rw [← hv11];clear hv11 R F N O4;go_wp2
      go_roundw
      case rel => exact ⟨k + 1, P4, nx, by omega, hpl4.out, by go_num, F9, R9, hob⟩
      case measure => simp [intOf]; omega
    ·
     have hcz : (c == 0) = false := by simpa using hc
     replace hc : Hid (¬ c = 0) := hc;go_wp2
     go_roundw
     case rel => exact ⟨k + 1, P4, x, by omega, hpl4.out, by go_num, F, R, hxo⟩
     case measure => simp [intOf]; omega
  go_upto_region 13 with fail
  obtain ⟨aP, cP, rfl⟩ := F.open_;clear hpl F hlt;refine wp_region_held (S := fun Y => AS Y p7 s ∧ AS Y p9 x) (by kernel_rfl) ?_;change wpAnyH _ _ _ _ _ _ _ _ (World.drew _);obtain ⟨u0, hu0⟩ := AC (World.drew wr);have kd : Bw wr u0 := by rw [hu0]; exact (Below.refl _ _).drew
  rw [← hu0];clear hu0;have R := R.later kd;clear kd;have hS : AS u0 p7 s ∧ AS u0 p9 x := ⟨R.A7, R.A9⟩;have h7 := R.h7;have h9 := R.h9;refine tw 0 59 (.agg (bc s)) ?_ (hy := by intro Y hSw; have X := (hSw.1.at_).all; go_simp);refine tw 1 60 (.slice aP P.length cP) ?_;refine tw 2 61 (.agg (bc x)) ?_ (hy := by intro Y hSw; have X := (hSw.2.at_).all; go_simp);have D := R.D;have Z4 := R.Z4;have Z6 := R.Z6;have A7 := R.A7;have A9 := R.A9;have O := R.O;clear R hS;refine w1 3 fun Kz hKz => ?_
  have ZB := Z4.box;have r0 := Ad ZB;go_simp
  clear r0;obtain ⟨u1, hv9⟩ := AC ((((((((((u0.setCell (ja w.heap.size 0) (ji s.id)).setCell (ja w.heap.size 1) (ji s.po)).setCell (ja w.heap.size 2) (ji s.rg.ep)).setCell (ja w.heap.size 3) (ji s.rg.ow)).setCell (ja w.heap.size 4) (ji s.rg.pa)).setCell (ja w.heap.size 5) (.slice s.aT s.two.length s.cT)).setCell (ja w.heap.size 6) (.slice s.aN s.net.length s.cN)).setCell (ja w.heap.size 7) (.slice s.aG s.ga.length s.cG)).setCell (ja w.heap.size 8) (.slice s.aL s.ln.length s.cL)).setCell (ja w.heap.size 9) (.slice s.aS s.sd.length s.cS));have Ns : AS u1 (w.heap.size) s := by rw [hv9]; exact Z4.box.put s
  have kp : ∀ k_, k_ ≠ (w.heap.size) → u1.heap[k_]? = u0.heap[k_]? := fun k_ hk_ => by rw [hv9]; exact Ak u0 (w.heap.size) k_ s hk_
  have D : DV w cb ad len cap u1 := by rw [hv9]; exact D.put10_ s (by omega) hcb
  have O : AL w.heap.size u1 x := by rw [hv9]; exact O.keepZ Z4 (fun g_ hg_ => Ak u0 (w.heap.size) g_ s hg_)
  have Z6 := Z6.keep (kp _ (by omega));have A7 := A7.keep (kp _ (by omega));have A9 := A9.keep (kp _ (by omega));rw [← hv9];clear hv9 kp Z4;refine hKz _ _ ⟨⟨A7, A9⟩, ?_⟩;clear hKz Kz;have hS : AS u1 p7 s ∧ AS u1 p9 x := ⟨A7, A9⟩;refine tw 4 5 (.slice aP P.length cP) ?_;clear hS;refine w1 5 fun Kz hKz => ?_
  have ZB := Z6.box;have r0 := Ad ZB;go_simp
  clear r0;obtain ⟨u2, hv9⟩ := AC ((((((((((u1.setCell ⟨w.heap.size + 1, 0, none⟩ (ji x.id)).setCell ⟨w.heap.size + 1, 1, none⟩ (ji x.po)).setCell ⟨w.heap.size + 1, 2, none⟩ (ji x.rg.ep)).setCell ⟨w.heap.size + 1, 3, none⟩ (ji x.rg.ow)).setCell ⟨w.heap.size + 1, 4, none⟩ (ji x.rg.pa)).setCell ⟨w.heap.size + 1, 5, none⟩ (.slice x.aT x.two.length x.cT)).setCell ⟨w.heap.size + 1, 6, none⟩ (.slice x.aN x.net.length x.cN)).setCell ⟨w.heap.size + 1, 7, none⟩ (.slice x.aG x.ga.length x.cG)).setCell ⟨w.heap.size + 1, 8, none⟩ (.slice x.aL x.ln.length x.cL)).setCell ⟨w.heap.size + 1, 9, none⟩ (.slice x.aS x.sd.length x.cS));have Nx : AS u2 (w.heap.size + 1) x := by rw [hv9]; exact Z6.box.put x
  have kp : ∀ k_, k_ ≠ (w.heap.size + 1) → u2.heap[k_]? = u1.heap[k_]? := fun k_ hk_ => by rw [hv9]; exact Ak u1 (w.heap.size + 1) k_ x hk_
  have D : DV w cb ad len cap u2 := by rw [hv9]; exact D.put10_ x (by omega) hcb
  have O : AL w.heap.size u2 x := by rw [hv9]; exact O.keepZ Z6 (fun g_ hg_ => Ak u1 (w.heap.size + 1) g_ x hg_)
  have Ns := Ns.keep (kp _ (by omega));have A7 := A7.keep (kp _ (by omega));have A9 := A9.keep (kp _ (by omega));rw [← hv9];clear hv9 kp Z6;refine hKz _ _ ⟨⟨A7, A9⟩, ?_⟩;clear hKz Kz;refine Ag ?_;have sZ := D.src hs;have gZ := D.gr;clear A7 A9 D;obtain ⟨⟨a0, a1, a2, a3, a4, a5, a6, a7, a8, a9⟩, _⟩ := Ns;obtain ⟨⟨r0, r1, r2, r3, r4, r5, r6, r7, r8, r9⟩, _⟩ := Nx;go_wp2
  refine bodyPost_ret (v := .tuple #[AJ s, .slice aP P.length cP, AJ x]) (by simp [AJ, results, results127, go_sem, *]) rfl ⟨s, x, .slice aP P.length cP, rfl, hxo.out, O, sZ, gZ⟩
end Go.Proofs.YtjmnaeeknomiaaaGreatDoor
