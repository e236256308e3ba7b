/- laws.sameBridge, walked.                   write, told, walked. -/
import Derived.Deep.Grids
import Derived.Test.YtjmnaeeknomiaaaGreatRM9
import Derived.Test.YtjmnaeeknomiaaaGreatProg
import Derived.Conc.MuLone
import Derived.KernelRfl
import Derived.Laws.LoneSync
import Derived.Test.YtjmnaeeknomiaaaGreatRM22
namespace Go.Proofs.YtjmnaeeknomiaaaGreat
open Go.ChangeShapes Go.WideShapes Go.ChangeAt Go.RowKit
open Go.ChangeMaps (open_string shut_string)
set_option linter.unusedVariables false
attribute [local go_sem] ji ja
set_option maxRecDepth 100000
set_option maxHeartbeats 32000000
set_option linter.unusedSimpArgs false
open Go.Proofs.Tryz
theorem Jw (id : Int) (ad ad' : Option Addr) (cap cap' : Nat) (L : List Pt) (w : World) (hv : AH AL w ad L) (hv' : AH AL w ad' L) (hl : L.length ≤ 1048576) :
    Calls prog 22 #[.agg #[.int .i64 id, .slice ad L.length cap], .agg #[.int .i64 id, .slice ad' L.length cap']] w fun e w' => e = .returned (.bool true) ∧ Below w.heap.size w w' := by
  have hB := hv.lt AZ (by omega)
  have hB' := hv'.lt AZ (by omega)
  obtain ⟨y, hy⟩ : ∃ y, y = (w.alloc (Obj.cells #[.int .i64 id, .slice ad L.length cap] 42)).alloc (Obj.cells #[.int .i64 id, .slice ad' L.length cap'] 42) := ⟨_, rfl⟩
  have B0 : Below w.heap.size w y := by rw [hy]; exact ((Below.refl _ _).alloc (Nat.le_refl _) _).alloc (by simp) _
  have A0 : As y w.heap.size id (.slice ad L.length cap) := by rw [hy]; constructor <;> simp [go_sem]
  have A1 : As y (w.heap.size + 1) id (.slice ad' L.length cap') := by rw [hy]; constructor <;> simp [go_sem]
  have S0 := A1.lt
  have hv1 := hv.below B0 hB
  have hv1' := hv'.below B0 hB'
  clear hv hv' hB hB'
  go_enter func22, ntmps22
  go_upto_region 3 with fail
  rw [← hy]
  clear hy
  go_wp2
  go_loopw [5] (fun i wr => ∃ k : Nat, k ≤ L.length ∧ i = .int .i64 (k : Int) ∧ Below y.heap.size y wr) (fun i _ => L.length - (intOf i).toNat)
  case atStart => exact ⟨0, Nat.zero_le _, rfl, Below.refl _ _⟩
  case round =>
    obtain ⟨k, hk, rfl, K⟩ := hrel
    have A2 := A0.below K (by omega)
    have A3 := A1.below K S0
    have cc_ := A2
    obtain ⟨a0, a1⟩ := cc_
    by_cases hlt : k < L.length
    · have hv2 := hv1.below K (hv1.lt AZ (by omega))
      have hv2' := hv1'.below K (hv1'.lt AZ (by omega))
      obtain ⟨b, off, rfl, _⟩ := hv2 (by omega)
      obtain ⟨b', off', rfl, _⟩ := hv2' (by omega)
      obtain ⟨h, hh⟩ : ∃ h, L.getD k Pt.nil = h := ⟨_, rfl⟩
      have hc : ∀ Y, Below wr.heap.size wr Y → Bt Y b (off + k * 11) h := fun Y hY => by rw [← hh]; exact CJ ((hv2.below hY (hv2.lt AZ (by omega))).at_ AZ Pt.nil hlt)
      have hc' : ∀ Y, Below wr.heap.size wr Y → Bt Y b' (off' + k * 11) h := fun Y hY => by rw [← hh]; exact CJ ((hv2'.below hY (hv2'.lt AZ (by omega))).at_ AZ Pt.nil hlt)
      clear hh
      go_upto_region 6 with fail
      clear a0 a1 hv2 hv2'
      refine wp_region_held (S := fun Y => Below wr.heap.size wr Y) (by kernel_rfl) ?_
      change wpAnyH _ _ _ _ _ _ _ _ (World.drew _)
      have hb0 : Below wr.heap.size wr wr.drew := (Below.refl _ _).drew
      obtain ⟨u0, hy0⟩ : ∃ y_, y_ = wr.drew := ⟨_, rfl⟩
      rw [← hy0] at hb0 ⊢
      clear hy0
      refine Ak 0 27 (.pointer (some ⟨w.heap.size, 1, none⟩)) rfl rfl (by kernel_rfl) (by kernel_rfl) (by kernel_rfl) (fun _ _ _ h => h) (by kernel_rfl) (by (intro w hSw; go_simp)) (by assumption) ?_
      simp only [List.set_cons_zero, List.set_cons_succ]
      refine Ak 1 28 (.slice (some ⟨b, off, none⟩) L.length cap) rfl rfl (by kernel_rfl) (by kernel_rfl) (by kernel_rfl) (fun _ _ _ h => h) (by kernel_rfl) (by (intro Y hSw; obtain ⟨X0, X1⟩ := A2.below hSw A2.lt; go_simp)) (by assumption) ?_
      simp only [List.set_cons_zero, List.set_cons_succ]
      refine Ak 2 29 (.int .i64 (k : Int)) rfl rfl (by kernel_rfl) (by kernel_rfl) (by kernel_rfl) (fun _ _ _ h => h) (by kernel_rfl) (by (intro w hSw; go_simp)) (by assumption) ?_
      simp only [List.set_cons_zero, List.set_cons_succ]
      refine Ak 3 30 (.pointer (some ⟨b, off + k * 11, none⟩)) rfl rfl (by kernel_rfl) (by kernel_rfl) (by kernel_rfl) (fun _ _ _ h => h) (by kernel_rfl) (by (intro Y hSw; go_simp; try omega)) (by assumption) ?_
      simp only [List.set_cons_zero, List.set_cons_succ]
      refine Ak 4 31 (.agg #[.bool h.up, .bool h.has, .int .i64 h.r, .int .i64 h.c, .int .i64 h.b, .int .i64 h.p, .int .i64 h.h, .int .i64 h.l, .int .i64 h.ro, .int .i64 h.wa, .bool h.op]) rfl rfl (by kernel_rfl) (by kernel_rfl) (by kernel_rfl) (fun _ _ _ h => h) (by kernel_rfl) (by (intro Y hSw; obtain ⟨X0, X1, X2, X3, X4, X5, X6, X7, X8, X9, X10⟩ := hc Y hSw; go_simp)) (by assumption) ?_
      simp only [List.set_cons_zero, List.set_cons_succ]
      refine Ak 5 32 (.pointer (some ⟨w.heap.size + 1, 1, none⟩)) rfl rfl (by kernel_rfl) (by kernel_rfl) (by kernel_rfl) (fun _ _ _ h => h) (by kernel_rfl) (by (intro w hSw; go_simp)) (by assumption) ?_
      simp only [List.set_cons_zero, List.set_cons_succ]
      refine Ak 6 33 (.slice (some ⟨b', off', none⟩) L.length cap') rfl rfl (by kernel_rfl) (by kernel_rfl) (by kernel_rfl) (fun _ _ _ h => h) (by kernel_rfl) (by (intro Y hSw; obtain ⟨X0, X1⟩ := A3.below hSw A3.lt; go_simp)) (by assumption) ?_
      simp only [List.set_cons_zero, List.set_cons_succ]
      refine Ak 7 34 (.int .i64 (k : Int)) rfl rfl (by kernel_rfl) (by kernel_rfl) (by kernel_rfl) (fun _ _ _ h => h) (by kernel_rfl) (by (intro w hSw; go_simp)) (by assumption) ?_
      simp only [List.set_cons_zero, List.set_cons_succ]
      refine Ak 8 35 (.pointer (some ⟨b', off' + k * 11, none⟩)) rfl rfl (by kernel_rfl) (by kernel_rfl) (by kernel_rfl) (fun _ _ _ h => h) (by kernel_rfl) (by (intro Y hSw; go_simp; try omega)) (by assumption) ?_
      simp only [List.set_cons_zero, List.set_cons_succ]
      refine Ak 9 36 (.agg #[.bool h.up, .bool h.has, .int .i64 h.r, .int .i64 h.c, .int .i64 h.b, .int .i64 h.p, .int .i64 h.h, .int .i64 h.l, .int .i64 h.ro, .int .i64 h.wa, .bool h.op]) rfl rfl (by kernel_rfl) (by kernel_rfl) (by kernel_rfl) (fun _ _ _ h => h) (by kernel_rfl) (by (intro Y hSw; obtain ⟨X0, X1, X2, X3, X4, X5, X6, X7, X8, X9, X10⟩ := hc' Y hSw; go_simp)) (by assumption) ?_
      simp only [List.set_cons_zero, List.set_cons_succ]
      refine Ak 10 37 (.bool false) rfl rfl (by kernel_rfl) (by kernel_rfl) (by kernel_rfl) (fun _ _ _ h => h) (by kernel_rfl) (by (intro Y hSw; go_simp)) (by assumption) ?_
      simp only [List.set_cons_zero, List.set_cons_succ]
      refine wpAnyH_done (by kernel_rfl) ?_ _
      go_wp2
      go_roundw
      case rel => exact ⟨k + 1, by omega, by go_num, K.trans (hb0.mono K.size)⟩
      case measure => simp [intOf]; omega
    · obtain rfl : k = L.length := by omega
      have BZ := B0.trans (K.mono B0.size)
      go_wp2
      go_ret
      exact ⟨rfl, BZ⟩
end Go.Proofs.YtjmnaeeknomiaaaGreat
namespace Go.Proofs.YtjmnaeeknomiaaaGreat
open Go.ChangeShapes Go.WideShapes Go.ChangeAt Go.RowKit
open Go.ChangeMaps (open_string shut_string)
set_option linter.unusedVariables false
set_option maxRecDepth 100000
set_option maxHeartbeats 32000000
set_option linter.unusedSimpArgs false
open Go.Proofs.Tryz
attribute [local go_sem] ji ja pc
theorem IR (id : Int) (ad : Option Addr) (cap : Nat) (L : List Pt) (w : World) (hv : AH AL w ad L) (hl : L.length ≤ 1048576) :
  Calls prog 34 #[.agg #[ji id, .slice ad L.length cap]] w fun e w' => ∃ a c, e = .returned (.slice a L.length c) ∧ AB Az 1 4 w.heap.size w' (.slice a L.length c) (BH L) ∧ Bw w w' := by
 obtain ⟨i0, hi, hz0, hz1, hz2⟩ := info_parts Fg;obtain ⟨y, hy, B0⟩ := AI w (Obj.cells #[ji id, .slice ad L.length cap] 42);have A : As y w.heap.size id (.slice ad L.length cap) := by rw [hy]; exact As.new w _ _ _
 have hB := hv.lt AZ (by omega);have hV := hv.below B0 hB;have hB := hV.lt AZ (by omega);have S0 := A.lt;clear hv;go_enter func34, ntmps34
 go_upto_region 1 with fail
 rw [← hy];clear hy;obtain ⟨a0, a1'⟩ := _root_.id A;go_wp2_with (first | (refine wpList_make_full _ rfl _ _ 30 rfl y.heap.size 4 i0 (.bool false) 1 underlying30 hi hz0 hz1 .i64 .i64 _ _ L.length rfl rfl rfl rfl ?c1 ?c2 ?c3 ?_))
 case c1 => rw [hz2]; omega
 case c2 => unfold maxLen; omega
 case c3 => exact Nat.le_refl _
 intro w1 hown hgrow;have hgl : (BH L).length = L.length := Eb L;have F0 : Ck Az 1 4 y.heap.size w1 y.heap.size (BH L) 0 := Ck.start (by rw [hgl]; exact hown);have B1 : Bw y w1 := (Below.refl _ _).grown hgrow (Nat.le_refl _) (by simp);clear hown hgrow a0 a1';have A1 := A.below B1 S0;obtain ⟨a0, a1'⟩ := _root_.id A1;go_wp2
 clear a0 a1';go_loopw [13] (fun i wr => ∃ k : Nat, k ≤ L.length ∧ i = .int .i64 k ∧ Ck Az 1 4 y.heap.size wr y.heap.size (BH L) k ∧ Below y.heap.size y wr) (fun i _ => L.length - (intOf i).toNat)
 case atStart => exact ⟨0, Nat.zero_le _, rfl, F0, B1⟩
 case round =>
  obtain ⟨k, hk, rfl, F, B⟩ := hrel;clear F0 B1 A1;by_cases hlt : k < L.length
  ·
   obtain ⟨b, off, rfl, _⟩ := hV (by omega);obtain ⟨h, hh⟩ : ∃ h, L.getD k Pt.nil = h := ⟨_, rfl⟩;have hck : Bt wr b (off + k * 11) h := by
    rw [← hh];exact CJ ((hV.below B hB).at_ AZ Pt.nil hlt)
   replace hck := hck.all;have hsz := F.lt;obtain ⟨u, hu, ku⟩ := AI wr (Obj.cells (pc h) 70);have G := F.keep (ku.block _ hsz.2);have B2 := B.trans (ku.mono (Nat.le_of_lt hsz.2));have U : Bv u wr.heap.size h := by rw [hu]; exact ES wr _ _
   obtain ⟨v0, hv0⟩ := G.cell (k * 1) (by rw [hgl]; omega);have f0 := G.frozen (k * 1);rw [Nat.mul_one] at hv0 f0;have G1 := G.step Bj false (by rw [hgl]; exact hlt);have B3 := DF (Nat.le_refl _) (Az h.op) (k * 1) B2;rw [IQ L hlt, hh] at G1;simp only [Az, CB, Nat.mul_one] at G1 B3;clear F G B B2 hh hsz ku;go_upto_region 5 with fail
   rw [← hu];clear hck hu;replace U := U.all;go_wp2
   go_roundw
   case rel => exact ⟨k + 1, by omega, by go_num, G1, B3⟩
   case measure => simp [intOf]; omega
  obtain rfl : k = L.length := by omega
  have OZ : AB Az 1 4 w.heap.size wr (.slice (some (ja y.heap.size 0)) L.length L.length) (BH L) := by
   have := Ck.done Bj (L := BH L) (by rw [hgl]; exact F);rw [hgl] at this;exact this.base B0.size
  have bZ := AE B0 B;go_wp2
  go_ret
  exact ⟨_, _, rfl, OZ, bZ⟩
theorem HI (id : Int) (ad : Option Addr) (cap : Nat) (L : List Pt) (w : World) (hv : AH AL w ad L) (hl : L.length ≤ 1048576) :
  Calls prog 34 #[.agg #[ji id, .slice ad L.length cap]] w fun e w' => ∃ a c, e = .returned (.slice a (BH L).length c) ∧ AB Az 1 4 w.heap.size w' (.slice a (BH L).length c) (BH L) ∧ Bw w w' := by
 rw [Eb];exact IR id ad cap L w hv hl
end Go.Proofs.YtjmnaeeknomiaaaGreat
namespace Go.Proofs.YtjmnaeeknomiaaaGreat
open Go.ChangeShapes Go.WideShapes Go.ChangeAt Go.RowKit
open Go.ChangeMaps (open_string shut_string)
set_option linter.unusedVariables false
set_option maxRecDepth 100000
set_option maxHeartbeats 32000000
set_option linter.unusedSimpArgs false
open Go.Proofs.Tryz
theorem IP (id : Int) (ad : Option Addr) (cap : Nat) (L : List Pt) (w : World) (hv : AH AL w ad L) (hl : L.length ≤ 1048576) :
  Calls prog 35 #[.agg #[ji id, .slice ad L.length cap]] w fun e w' => ∃ a c, e = .returned (.slice a L.length c) ∧ AB Az 1 4 w.heap.size w' (.slice a L.length c) (BH L) ∧ Bw w w' := by
 obtain ⟨j0, hj, hj0, hj1, hj2⟩ := info_parts Fg;obtain ⟨y, hy, B0⟩ := AI w (Obj.cells #[ji id, .slice ad L.length cap] 42);have A : As y w.heap.size id (.slice ad L.length cap) := by rw [hy]; exact As.new w _ _ _
 have hB := hv.lt AZ (by omega);have hV := hv.below B0 hB;have hB := hV.lt AZ (by omega);have S0 := A.lt;clear hv;obtain ⟨y2, hy2, B1⟩ := AI y (Obj.cells #[] 4);have O0 : AB Az 1 4 y.heap.size y2 (.slice (some (ja y.heap.size 0)) 0 0) (BH (L.take 0)) := by
  rw [hy2]; exact AB.empty y
 go_enter func35, ntmps35
 go_upto_region 1 with fail
 rw [← hy];clear hy;go_upto_region 2 with fail
 rw [← hy2];clear hy2;go_wp2
 go_loopw [3, 4] (fun v q wr => ∃ k : Nat, k ≤ L.length ∧ q = .int .i64 (k : Int) ∧ AB Az 1 4 y.heap.size wr v (BH (L.take k)) ∧ Below y.heap.size y wr) (fun _ q _ => L.length - (intOf q).toNat)
 case atStart => exact ⟨0, Nat.zero_le _, rfl, O0, B1⟩
 case round =>
  obtain ⟨k, hk1, rfl, O, kb⟩ := hrel;clear O0 B1;have hA := A.below kb S0;obtain ⟨x1, x2⟩ := hA;by_cases hlt : k < L.length
  ·
   have hst := H7 L hlt;obtain ⟨b, off, rfl, _⟩ := hV (by omega);obtain ⟨h, hh⟩ : ∃ h, L.getD k Pt.nil = h := ⟨_, rfl⟩;have hck : Bt wr b (off + k * 11) h := by
    rw [← hh];exact CJ ((hV.below kb hB).at_ AZ Pt.nil hlt)
   rw [hh] at hst;have hop := hck.c10;clear hck hh;obtain ⟨M, hM⟩ : ∃ M, BH (L.take k) = M := ⟨_, rfl⟩;have hMl : M.length ≤ k := by rw [← hM, Eb]; simp; omega
   rw [hM] at O hst;clear hM;obtain ⟨ak, ck2, rfl⟩ := O.open_;replace hst : Hid _ := hst;have V1 := AH.oneB wr 4 h.op;have kx : Bw wr (wr.alloc (Obj.cells #[.bool h.op] 4)) := Ae _;have O4 := O.later kx;have b4 := AE kb kx;have s4 := b4.size;clear kx;go_wp2_with (first | (at_builtin; refine DT Bj Fw rfl _ _ 30 rfl y.heap.size 4 j0 (.bool false) 1 underlying30 hj hj0 hj1 hj2 rfl (by decide) (by decide) (.slice ak M.length ck2) M rfl O4 (some (ja wr.heap.size 0)) 1 [h.op] rfl (fun e => by cases e) V1 ?z0 ?z1 ?_) | go_in)
   case z0 => first | omega | (simp; omega)
   case z1 => first | omega | (simp; omega)
   intro vZ wZ hownZ hgrowZ _;have hob : ∀ q, (Value.slice ak M.length ck2).ownBlock = some q → y.heap.size ≤ q := fun q e => (O4.lt q e).1
   have bZ : Bw y wZ := b4.grown hgrowZ (by exact s4) hob;clear hgrowZ V1 O4 hob O b4;go_wp2
   go_roundw
   case rel => exact ⟨k + 1, by omega, by go_num, by rw [hst.out]; exact hownZ, bZ⟩
   case measure => simp [intOf]; omega
  obtain rfl : k = L.length := by omega
  rw [List.take_length] at O;obtain ⟨ak, ck2, rfl⟩ := O.open_;have OZ := O.base B0.size;rw [Eb] at OZ ⊢;have bZ := AE B0 kb;go_wp2
  go_ret
  exact ⟨_, _, rfl, OZ, bZ⟩
theorem Il (id : Int) (ad : Option Addr) (cap : Nat) (L : List Pt) (w : World) (hv : AH AL w ad L) (hl : L.length ≤ 1048576) :
  Calls prog 35 #[.agg #[ji id, .slice ad L.length cap]] w fun e w' => ∃ a c, e = .returned (.slice a (BH L).length c) ∧ AB Az 1 4 w.heap.size w' (.slice a (BH L).length c) (BH L) ∧ Bw w w' := by
 rw [Eb];exact IP id ad cap L w hv hl
attribute [local go_sem] ji ja
theorem GQ {cb : Nat} {ad : Option Addr} {len cap : Nat} {f : Nat → Int} (w : World) (hs : BE w cb ad len cap f) (hcb : cb < w.heap.size) : Calls prog 80 #[.pointer (some (ja cb 0))] w fun e w' => Hs w cb ad len cap f e w' := by
 obtain ⟨R, hRe⟩ := AC w.heap.size;have hR : w.heap.size ≤ R := by omega
 have hRc : R ≠ cb := by omega
 obtain ⟨x0, hx0⟩ := AC (w.alloc (Obj.cells #[ji 0, ji 0, ji 0, ji 0, ji 0, ji 0, ji 0, .bool false] 64));have D0 : DV w cb ad len cap x0 := by rw [hx0]; exact (DV.start hs).alloc _
 have Z0 : CP x0 R ⟨0, 0, 0, 0, 0, 0, 0, false⟩ := by rw [hx0, hRe]; exact ⟨BD.new w _ ⟨0, 0, 0, 0, 0, 0, 0, false⟩, fun i => by simp [go_sem]⟩
 go_enter func80, ntmps80
 go_wp2_with fail
 go_at_call 88
 rw [← hx0, ← hRe];clear hx0 hRe;refine (Jk x0 (D0.src hs) D0.cur.lt).mono ?_;rintro e y1 ⟨⟨k, q, r, c, b, p, h, up⟩, rfl, s1, g1, b8⟩;have D1 := D0.step s1 g1;have Z1 := Z0.grown g1 hRc;unfold B8 at b8;dsimp only at b8 ⊢;obtain ⟨b1, b2, b3, b4, b5, b6⟩ := b8;obtain ⟨Q, hQ⟩ := AC y1.heap.size;obtain ⟨y2, hy2, k2⟩ := AI y1 (Obj.cells #[ji k, ji q, ji r, ji c, ji b, ji p, ji h, .bool up] 64);have Q2 : CP y2 Q ⟨k, q, r, c, b, p, h, up⟩ := by rw [hy2, hQ]; exact ⟨BD.new y1 _ ⟨k, q, r, c, b, p, h, up⟩, fun i => by simp [go_sem]⟩
 have D2 := D1.later8 k2;have Z2 : CP y2 R ⟨0, 0, 0, 0, 0, 0, 0, false⟩ := Z1.keep (k2.block _ Z1.at_.lt);have lQ : w.heap.size ≤ Q := by rw [hQ]; exact D1.gr.size
 have lQR : Q ≠ R := by have := Z1.at_.lt; omega
 have lQc : Q ≠ cb := by omega
 go_wp2_with fail
 go_at_call 38
 rw [← hy2, ← hQ];clear hy2 hQ k2 D0 Z0 Z1 D1 s1 g1;refine (BU (D2.src hs) 12 (by decide) (by decide)).mono ?_;rintro e y3 ⟨t, rfl, t0_, t1_, s3, g3⟩;have D3 := D2.step s3 g3;have Q3 := Q2.grown g3 lQc;have Z3 := Z2.grown g3 hRc;clear D2 Q2 Z2 s3 g3;by_cases e0 : t = 0
 ·
  subst e0;go_wp2_with fail
  go_at_call 38
  refine (BU (D3.src hs) 6 (by decide) (by decide)).mono ?_;rintro e y4 ⟨n, rfl, n0, n1, s4, g4⟩;have D4 := D3.step s4 g4;have Q4 := Q3.grown g4 lQc;have Z4 := Z3.grown g4 hRc;clear D3 Q3 Z3 s4 g4;obtain ⟨y5, hst⟩ := AC (y4.setCell (ja Q 0) (ji (n - 1)));have D5 : DV w cb ad len cap y5 := by rw [hst]; exact D4.set (N := Q) (i := 0) (by omega) hcb _
  have QN : CP y5 Q ⟨(n - 1), q, r, c, b, p, h, up⟩ := by rw [hst]; exact ⟨⟨Aj Q4.at_.c0, (AA (by decide)).trans Q4.at_.c1, (AA (by decide)).trans Q4.at_.c2, (AA (by decide)).trans Q4.at_.c3, (AA (by decide)).trans Q4.at_.c4, (AA (by decide)).trans Q4.at_.c5, (AA (by decide)).trans Q4.at_.c6, (AA (by decide)).trans Q4.at_.c7⟩, fun j => by rw [World.frozen?_setCell]; exact Q4.fr j⟩
  have ZZ : CP y5 R ⟨0, 0, 0, 0, 0, 0, 0, false⟩ := by rw [hst]; exact Z4.keep (AF (by show R ≠ Q; omega))
  have cq := Q4;obtain ⟨⟨e0, e1, e2, e3, e4, e5, e6, e7⟩, ef⟩ := cq;have fi := ef 0;go_upto_region 11 with fail
  rw [← hst];clear hst e0 e1 e2 e3 e4 e5 e6 e7 ef fi;have DZ := ((((((((D5.set (N := R) (i := 0) (by omega) hcb (ji (n - 1))).set (N := R) (i := 1) (by omega) hcb (ji q)).set (N := R) (i := 2) (by omega) hcb (ji r)).set (N := R) (i := 3) (by omega) hcb (ji c)).set (N := R) (i := 4) (by omega) hcb (ji b)).set (N := R) (i := 5) (by omega) hcb (ji p)).set (N := R) (i := 6) (by omega) hcb (ji h)).set (N := R) (i := 7) (by omega) hcb (.bool up));obtain ⟨⟨q0, q1, q2, q3, q4, q5, q6, q7⟩, qf⟩ := QN;obtain ⟨⟨z0, z1, z2, z3, z4, z5, z6, z7⟩, zf⟩ := ZZ;have f0 := zf 0;have f1 := zf 1;have f2 := zf 2;have f3 := zf 3;have f4 := zf 4;have f5 := zf 5;have f6 := zf 6;have f7 := zf 7;go_wp2
  refine bodyPost_ret (v := .agg #[ji (n - 1), ji q, ji r, ji c, ji b, ji p, ji h, .bool up]) (by simp [results, results80, go_sem, *]) rfl ⟨⟨(n - 1), q, r, c, b, p, h, up⟩, rfl, DZ.src hs, DZ.gr, by (unfold B8; simp only; omega)⟩
 have d0 : (t == 0) = false := by simpa using e0
 by_cases e1 : t = 1
 ·
  subst e1;obtain ⟨y4z, hy4z, kz⟩ := AI y3 (Obj.cells #[ji (-1), ji 3, ji 4] 3);have hpk : ∀ i, i < 3 → ∃ y, y4z.cell? (ja y3.heap.size i) = some (ji y) ∧ (fun y : Int => -1 ≤ y ∧ y ≤ 9) y := fun i hi => by
   rw [hy4z];rcases (by omega : i = 0 ∨ i = 1 ∨ i = 2) with rfl | rfl | rfl
   ·
    exact ⟨(-1 : Int), by simp [go_sem], by constructor <;> decide⟩
   ·
    exact ⟨(3 : Int), by simp [go_sem], by constructor <;> decide⟩
   exact ⟨(4 : Int), by simp [go_sem], by constructor <;> decide⟩
  have D3z := D3.later8 kz;have hcz : y3.heap.size ≠ cb := by have := D3.cur.lt; omega
  have Q3z : CP y4z Q _ := Q3.keep (kz.block _ Q3.at_.lt);have Z3z : CP y4z R _ := Z3.keep (kz.block _ Z3.at_.lt);go_wp2_with fail
  go_at_call 41
  rw [← hy4z];clear hy4z kz;refine (D7 (D3z.src hs) (fun y : Int => -1 ≤ y ∧ y ≤ 9) y3.heap.size 3 3 hcz (by decide) (by decide) hpk).mono ?_;rintro e y4 ⟨n, rfl, hn, s_, g_⟩;have D3p := D3z.step s_ g_;have Q4 := Q3z.grown g_ lQc;have Z4 := Z3z.grown g_ hRc;obtain ⟨n0, n1⟩ := hn;clear D3 D3z Q3 Q3z Z3 Z3z s_ g_ hpk hcz;obtain ⟨y5, hst⟩ := AC (y4.setCell (ja Q 1) (ji n));have D5 : DV w cb ad len cap y5 := by rw [hst]; exact D3p.set (N := Q) (i := 1) (by omega) hcb _
  have QN : CP y5 Q ⟨k, n, r, c, b, p, h, up⟩ := by rw [hst]; exact ⟨⟨(AA (by decide)).trans Q4.at_.c0, Aj Q4.at_.c1, (AA (by decide)).trans Q4.at_.c2, (AA (by decide)).trans Q4.at_.c3, (AA (by decide)).trans Q4.at_.c4, (AA (by decide)).trans Q4.at_.c5, (AA (by decide)).trans Q4.at_.c6, (AA (by decide)).trans Q4.at_.c7⟩, fun j => by rw [World.frozen?_setCell]; exact Q4.fr j⟩
  have ZZ : CP y5 R ⟨0, 0, 0, 0, 0, 0, 0, false⟩ := by rw [hst]; exact Z4.keep (AF (by show R ≠ Q; omega))
  have cq := Q4;obtain ⟨⟨e0, e1, e2, e3, e4, e5, e6, e7⟩, ef⟩ := cq;have fi := ef 1;go_upto_region 11 with fail
  rw [← hst];clear hst e0 e1 e2 e3 e4 e5 e6 e7 ef fi;have DZ := ((((((((D5.set (N := R) (i := 0) (by omega) hcb (ji k)).set (N := R) (i := 1) (by omega) hcb (ji n)).set (N := R) (i := 2) (by omega) hcb (ji r)).set (N := R) (i := 3) (by omega) hcb (ji c)).set (N := R) (i := 4) (by omega) hcb (ji b)).set (N := R) (i := 5) (by omega) hcb (ji p)).set (N := R) (i := 6) (by omega) hcb (ji h)).set (N := R) (i := 7) (by omega) hcb (.bool up));obtain ⟨⟨q0, q1, q2, q3, q4, q5, q6, q7⟩, qf⟩ := QN;obtain ⟨⟨z0, z1, z2, z3, z4, z5, z6, z7⟩, zf⟩ := ZZ;have f0 := zf 0;have f1 := zf 1;have f2 := zf 2;have f3 := zf 3;have f4 := zf 4;have f5 := zf 5;have f6 := zf 6;have f7 := zf 7;go_wp2
  refine bodyPost_ret (v := .agg #[ji k, ji n, ji r, ji c, ji b, ji p, ji h, .bool up]) (by simp [results, results80, go_sem, *]) rfl ⟨⟨k, n, r, c, b, p, h, up⟩, rfl, DZ.src hs, DZ.gr, by (unfold B8; simp only; omega)⟩
 have d1 : (t == 1) = false := by simpa using e1
 by_cases e2 : t = 2
 ·
  subst e2;go_wp2_with fail
  go_at_call 122
  refine (Jj y3 (D3.src hs) D3.cur.lt).mono ?_;rintro e y4 ⟨r2, c2, b2', p2, rfl, hV4, s4, g4⟩;have D4 := D3.step s4 g4;have Q4 := Q3.grown g4 lQc;have Z4 := Z3.grown g4 hRc;clear D3 Q3 Z3 s4 g4;obtain ⟨y5, hst⟩ := AC ((((y4.setCell (ja Q 2) (ji r2)).setCell (ja Q 3) (ji c2)).setCell (ja Q 4) (ji b2')).setCell (ja Q 5) (ji p2));have D5 : DV w cb ad len cap y5 := by rw [hst]; exact ((((D4.set (N := Q) (i := 2) (by omega) hcb (ji r2)).set (N := Q) (i := 3) (by omega) hcb (ji c2)).set (N := Q) (i := 4) (by omega) hcb (ji b2')).set (N := Q) (i := 5) (by omega) hcb (ji p2))
  have QN : CP y5 Q ⟨k, q, r2, c2, b2', p2, h, up⟩ := by rw [hst]; obtain ⟨⟨e0, e1, e2, e3, e4, e5, e6, e7⟩, ef⟩ := Q4; refine ⟨⟨?_, ?_, ?_, ?_, ?_, ?_, ?_, ?_⟩, fun j => ?_⟩ <;> simp [go_sem, *]
  have ZZ : CP y5 R ⟨0, 0, 0, 0, 0, 0, 0, false⟩ := by rw [hst]; exact Z4.keep (by rw [AF (by show R ≠ Q; omega), AF (by show R ≠ Q; omega), AF (by show R ≠ Q; omega), AF (by show R ≠ Q; omega)])
  have cq := Q4;obtain ⟨⟨e0, e1, e2, e3, e4, e5, e6, e7⟩, ef⟩ := cq;have fi2 := ef 2;have fi3 := ef 3;have fi4 := ef 4;have fi5 := ef 5;go_upto_region 11 with fail
  rw [← hst];clear hst e0 e1 e2 e3 e4 e5 e6 e7 ef fi2 fi3 fi4 fi5;have DZ := ((((((((D5.set (N := R) (i := 0) (by omega) hcb (ji k)).set (N := R) (i := 1) (by omega) hcb (ji q)).set (N := R) (i := 2) (by omega) hcb (ji r2)).set (N := R) (i := 3) (by omega) hcb (ji c2)).set (N := R) (i := 4) (by omega) hcb (ji b2')).set (N := R) (i := 5) (by omega) hcb (ji p2)).set (N := R) (i := 6) (by omega) hcb (ji h)).set (N := R) (i := 7) (by omega) hcb (.bool up));obtain ⟨⟨q0, q1, q2, q3, q4, q5, q6, q7⟩, qf⟩ := QN;obtain ⟨⟨z0, z1, z2, z3, z4, z5, z6, z7⟩, zf⟩ := ZZ;have f0 := zf 0;have f1 := zf 1;have f2 := zf 2;have f3 := zf 3;have f4 := zf 4;have f5 := zf 5;have f6 := zf 6;have f7 := zf 7;go_wp2
  refine bodyPost_ret (v := .agg #[ji k, ji q, ji r2, ji c2, ji b2', ji p2, ji h, .bool up]) (by simp [results, results80, go_sem, *]) rfl ⟨⟨k, q, r2, c2, b2', p2, h, up⟩, rfl, DZ.src hs, DZ.gr, by (unfold V4 at hV4; unfold B8; simp only; omega)⟩
 have d2 : (t == 2) = false := by simpa using e2
 by_cases e3 : t = 3
 ·
  subst e3;obtain ⟨y4z, hy4z, kz⟩ := AI y3 (Obj.cells #[ji (-1), ji 8, ji 9] 3);have hpk : ∀ i, i < 3 → ∃ y, y4z.cell? (ja y3.heap.size i) = some (ji y) ∧ (fun y : Int => -1 ≤ y ∧ y ≤ 9) y := fun i hi => by
   rw [hy4z];rcases (by omega : i = 0 ∨ i = 1 ∨ i = 2) with rfl | rfl | rfl
   ·
    exact ⟨(-1 : Int), by simp [go_sem], by constructor <;> decide⟩
   ·
    exact ⟨(8 : Int), by simp [go_sem], by constructor <;> decide⟩
   exact ⟨(9 : Int), by simp [go_sem], by constructor <;> decide⟩
  have D3z := D3.later8 kz;have hcz : y3.heap.size ≠ cb := by have := D3.cur.lt; omega
  have Q3z : CP y4z Q _ := Q3.keep (kz.block _ Q3.at_.lt);have Z3z : CP y4z R _ := Z3.keep (kz.block _ Z3.at_.lt);go_wp2_with fail
  go_at_call 41
  rw [← hy4z];clear hy4z kz;refine (D7 (D3z.src hs) (fun y : Int => -1 ≤ y ∧ y ≤ 9) y3.heap.size 3 3 hcz (by decide) (by decide) hpk).mono ?_;rintro e y4 ⟨n, rfl, hn, s_, g_⟩;have D3p := D3z.step s_ g_;have Q4 := Q3z.grown g_ lQc;have Z4 := Z3z.grown g_ hRc;obtain ⟨n0, n1⟩ := hn;clear D3 D3z Q3 Q3z Z3 Z3z s_ g_ hpk hcz;obtain ⟨y5, hst⟩ := AC (y4.setCell (ja Q 6) (ji n));have D5 : DV w cb ad len cap y5 := by rw [hst]; exact D3p.set (N := Q) (i := 6) (by omega) hcb _
  have QN : CP y5 Q ⟨k, q, r, c, b, p, n, up⟩ := by rw [hst]; exact ⟨⟨(AA (by decide)).trans Q4.at_.c0, (AA (by decide)).trans Q4.at_.c1, (AA (by decide)).trans Q4.at_.c2, (AA (by decide)).trans Q4.at_.c3, (AA (by decide)).trans Q4.at_.c4, (AA (by decide)).trans Q4.at_.c5, Aj Q4.at_.c6, (AA (by decide)).trans Q4.at_.c7⟩, fun j => by rw [World.frozen?_setCell]; exact Q4.fr j⟩
  have ZZ : CP y5 R ⟨0, 0, 0, 0, 0, 0, 0, false⟩ := by rw [hst]; exact Z4.keep (AF (by show R ≠ Q; omega))
  have cq := Q4;obtain ⟨⟨e0, e1, e2, e3, e4, e5, e6, e7⟩, ef⟩ := cq;have fi := ef 6;go_upto_region 11 with fail
  rw [← hst];clear hst e0 e1 e2 e3 e4 e5 e6 e7 ef fi;have DZ := ((((((((D5.set (N := R) (i := 0) (by omega) hcb (ji k)).set (N := R) (i := 1) (by omega) hcb (ji q)).set (N := R) (i := 2) (by omega) hcb (ji r)).set (N := R) (i := 3) (by omega) hcb (ji c)).set (N := R) (i := 4) (by omega) hcb (ji b)).set (N := R) (i := 5) (by omega) hcb (ji p)).set (N := R) (i := 6) (by omega) hcb (ji n)).set (N := R) (i := 7) (by omega) hcb (.bool up));obtain ⟨⟨q0, q1, q2, q3, q4, q5, q6, q7⟩, qf⟩ := QN;obtain ⟨⟨z0, z1, z2, z3, z4, z5, z6, z7⟩, zf⟩ := ZZ;have f0 := zf 0;have f1 := zf 1;have f2 := zf 2;have f3 := zf 3;have f4 := zf 4;have f5 := zf 5;have f6 := zf 6;have f7 := zf 7;go_wp2
  refine bodyPost_ret (v := .agg #[ji k, ji q, ji r, ji c, ji b, ji p, ji n, .bool up]) (by simp [results, results80, go_sem, *]) rfl ⟨⟨k, q, r, c, b, p, n, up⟩, rfl, DZ.src hs, DZ.gr, by (unfold B8; simp only; omega)⟩
 have d3 : (t == 3) = false := by simpa using e3
 have ZZ := Z3;have DZ := ((((((((D3.set (N := R) (i := 0) (by omega) hcb (ji k)).set (N := R) (i := 1) (by omega) hcb (ji q)).set (N := R) (i := 2) (by omega) hcb (ji r)).set (N := R) (i := 3) (by omega) hcb (ji c)).set (N := R) (i := 4) (by omega) hcb (ji b)).set (N := R) (i := 5) (by omega) hcb (ji p)).set (N := R) (i := 6) (by omega) hcb (ji h)).set (N := R) (i := 7) (by omega) hcb (.bool up));obtain ⟨⟨q0, q1, q2, q3, q4, q5, q6, q7⟩, qf⟩ := Q3;obtain ⟨⟨z0, z1, z2, z3, z4, z5, z6, z7⟩, zf⟩ := ZZ;have f0 := zf 0;have f1 := zf 1;have f2 := zf 2;have f3 := zf 3;have f4 := zf 4;have f5 := zf 5;have f6 := zf 6;have f7 := zf 7;go_wp2
 refine bodyPost_ret (v := .agg #[ji k, ji q, ji r, ji c, ji b, ji p, ji h, .bool up]) (by simp [results, results80, go_sem, *]) rfl ⟨⟨k, q, r, c, b, p, h, up⟩, rfl, DZ.src hs, DZ.gr, by (unfold B8; simp only; omega)⟩
end Go.Proofs.YtjmnaeeknomiaaaGreat
namespace Go.Proofs.YtjmnaeeknomiaaaGreat
open Go.ChangeShapes Go.WideShapes Go.ChangeAt Go.RowKit
open Go.ChangeMaps (open_string shut_string)
set_option linter.unusedVariables false
set_option maxRecDepth 100000
set_option maxHeartbeats 32000000
set_option linter.unusedSimpArgs false
open Go.Proofs.Tryz
structure Hg (w : World) (ad : Option Addr) (len : Nat) (f : Nat → Int) : Prop where
 lm : len ≤ maxLen
 view : EZ w ad len f
 lt : ∀ a, ad = some a → 0 < len → a.block < w.heap.size
 bytes : ∀ i, 0 ≤ f i ∧ f i ≤ 255
theorem H8 {H : Type} {enc : TypeId × Value → H} {w : World} {r : Reach} {b0 : Nat} {v : Value} {d : DataW H} {p : List MemPlace} (hv : Value.okWide prog w r b0 22 v) (h : DataW.Trod enc prog w 0 (fun _ => true) true 22 v d p) :
  ∃ ad len cap f, v = .slice ad len cap ∧ Hg w ad len f := by
 obtain ⟨n, hn⟩ := h;obtain ⟨a0, len0, cap0, rfl⟩ := okWide_slice (P := prog) (t := 22) (e := 5) underlying22 hv;have hcell0 : ∀ x, (Value.slice a0 len0 cap0).cells.toList = [x] → Value.slice a0 len0 cap0 = x := fun x h => by simpa [Value.cells] using h
 rcases open_ints underlying22 underlying5 (by kernel_rfl) hn with ⟨hcs, _⟩ | ⟨x, l, cp, zs, hcs, _, hl, hm, hz, _, hcell, hwz⟩
 ·
  exact ⟨none, 0, 0, fun _ => 0, hcell0 _ hcs, by unfold maxLen; omega, fun h => absurd h (by omega), fun a h => by simp at h, fun i => by simp⟩
 simp at hz
 refine ⟨some x, l, cp, fun i => zs.getD i 0, hcell0 _ hcs, by omega, fun hp => ?_, fun a h hp => ?_, fun i => ?_⟩
 ·
  obtain ⟨b, off, rfl, hc⟩ := ints_at hcell (by omega);exact ⟨b, off, rfl, fun i hi => hc i (by omega)⟩
 ·
  obtain rfl : x = a := by simpa using h
  have hc := hcell 0 (by omega);simpa [Addr.add] using World.block_lt_of_cell? w _ hc
 by_cases hi : i < zs.length
 ·
  have := bounds_u8 (hwz (zs.getD i 0) (by simp [List.getD, hi]));exact this
 simp [List.getD, List.getElem?_eq_none (by omega : zs.length ≤ i)]
theorem Jy (ad : Option Addr) (len cap : Nat) (w : World) (h : (1048576 : Int) < (len : Int)) : Calls prog 5 #[.slice ad len cap] w fun e w' => e = .returned (.bool true) ∧ w' = w := by
 go_enter func5, ntmps5
 go_wp2
 go_ret
 exact ⟨rfl, rfl⟩
theorem Ke (ad : Option Addr) (len cap : Nat) (w : World) (h : len ≤ 1048576) : Calls prog 5 #[.slice ad len cap] w fun e w' => e = .returned (.bool false) ∧ w' = w := by
 have h' : decide ((1048576 : Int) < (len : Int)) = false := decide_eq_false (by omega);go_enter func5, ntmps5
 go_wp2
 go_ret
 exact ⟨rfl, rfl⟩
end Go.Proofs.YtjmnaeeknomiaaaGreat
namespace Go.Proofs
abbrev Tryz.muLink : Go.Conc.Locks.MuLink := { lock := 117, unlock := 118, ilock := 145, iunlock := 146, lockSlow := 168, unlockSlow := 171, disable := 164, enable := 166, acquire := 167, relMerge := 169, cas32 := 165, add32 := 170, tMutex := 139, tIMutex := 137, tPMutex := 175, tPIMutex := 194, tPI32 := 196, tUP := 198, tNoCopy := 134, tU32 := 135 }
theorem Tryz.muLib : Go.Conc.Locks.MuLib Tryz.prog Tryz.muLink :=
 ⟨Tryz.func117, Tryz.func118, Tryz.func145, Tryz.func146, Tryz.func164, Tryz.func166, Tryz.func167, Tryz.func169, Tryz.func165, Tryz.func170, Tryz.underlying137, Tryz.runUnderlying137, Tryz.sizeOf137, Tryz.isAgg137, Tryz.zeroValue137, Tryz.underlying139, Tryz.runUnderlying139, Tryz.sizeOf139, Tryz.isAgg139, Tryz.zeroValue139, Tryz.underlying175, Tryz.runUnderlying175, Tryz.sizeOf175, Tryz.isAgg175, Tryz.zeroValue175, Tryz.underlying194, Tryz.runUnderlying194, Tryz.sizeOf194, Tryz.isAgg194, Tryz.zeroValue194, Tryz.underlying196, Tryz.runUnderlying196, Tryz.sizeOf196, Tryz.isAgg196, Tryz.zeroValue196, Tryz.underlying198, Tryz.runUnderlying198, Tryz.sizeOf198, Tryz.isAgg198, Tryz.zeroValue198, Tryz.underlying134, Tryz.runUnderlying134, Tryz.sizeOf134, Tryz.isAgg134, Tryz.zeroValue134, Tryz.underlying21, Tryz.runUnderlying21, Tryz.sizeOf21, Tryz.isAgg21, Tryz.zeroValue21, (by kernel_rfl)⟩
end Go.Proofs
namespace Go.Proofs.YtjmnaeeknomiaaaGreat
open Go.ChangeShapes Go.WideShapes Go.ChangeAt Go.RowKit
open Go.ChangeMaps (open_string shut_string)
set_option linter.unusedVariables false
set_option maxRecDepth 100000
set_option maxHeartbeats 32000000
set_option linter.unusedSimpArgs false
open Go.Proofs.Tryz
attribute [local go_sem] ji ja
theorem Gn (g : Nat) : ∀ (vs : List Value) (o : Nat) (w : World), w.setCells g o vs = CB w g o vs
 | [], _, _ => rfl
 | v :: vs, o, w => Gn g vs (o + 1) (w.setCell (ja g o) v)
structure Cr (q : Nat) (o : Option Nat) (w w' : World) : Prop where
 os : w'.os = w.os
 tape : w'.tape = w.tape
 output : w'.output = w.output
 size : w.heap.size ≤ w'.heap.size
 block : ∀ k, k < w.heap.size → k ≠ q → o ≠ some k → w'.heap[k]? = w.heap[k]?
theorem Cr.below {q : Nat} {o : Option Nat} {w w' : World} (h : Cr q o w w') {B : Nat} (hB : B ≤ w.heap.size) (h1 : B ≤ q) (h2 : ∀ g, o = some g → B ≤ g) : Below B w w' :=
 ⟨h.os, h.tape, h.output, h.size, fun k hk => h.block k (by omega) (by omega) (fun e => by have := h2 k e; omega)⟩
theorem Cr.refl (q : Nat) (o : Option Nat) (w : World) : Cr q o w w := ⟨rfl, rfl, rfl, Nat.le_refl _, fun _ _ _ _ => rfl⟩
theorem Cr.set {q : Nat} {o : Option Nat} {w w' : World} (h : Cr q o w w') (i : Nat) (v : Value) : Cr q o w (w'.setCell (ja q i) v) :=
 ⟨h.os, h.tape, h.output, by simpa using h.size, fun k hk h1 h2 => (AF h1).trans (h.block k hk h1 h2)⟩
theorem Cr.put {q g : Nat} {w : World} (o : Nat) (vs : List Value) : Cr q (some g) w (CB w g o vs) := by
 have hb := DF (B := 0) (g := g) (a := w) (Nat.zero_le _) vs o (Below.refl 0 w);exact ⟨hb.os, hb.tape, hb.output, hb.size, fun k _ _ h2 => Cp vs w o k (fun e => h2 (by rw [e]))⟩
theorem JM (w : World) : (zeroValue 64).run prog w = .ok (.agg #[ji 0, ji 0, ji 0, ji 0, ji 0, ji 0, ji 0, .bool false]) w := by kernel_rfl
theorem JG (w : World) (ty : TypeId) (g n c : Nat) (hn : 0 < n) (hc : ∀ j, j < n * 8 → (w.cell? (ja g j)).isSome = true) (hf : ∀ j, w.frozen? (ja g j) = false) :
  ∃ vs, (Builtin.clear_ #[31] ty #[.slice (some (ja g 0)) n c]).run prog w = .ok (.tuple #[]) (CB w g 0 vs) := by
 obtain ⟨z, hz⟩ := AC (Value.agg #[ji 0, ji 0, ji 0, ji 0, ji 0, ji 0, ji 0, .bool false]);have h8 : z.cells.size = 8 := by rw [hz]; rfl
 have hl : (Builtin.zeroCells z.cells n).toList.length = n * 8 := by simp [Builtin.zeroCells, h8]
 have h1 : ∀ v ∈ (Builtin.zeroCells z.cells n).toList, v.oneCell' = true := by
  intro v hv;simp only [Builtin.zeroCells, h8, Array.toList_map, List.mem_map] at hv;obtain ⟨i, _, rfl⟩ := hv;have : i % 8 = 0 ∨ i % 8 = 1 ∨ i % 8 = 2 ∨ i % 8 = 3 ∨ i % 8 = 4 ∨ i % 8 = 5 ∨ i % 8 = 6 ∨ i % 8 = 7 := by omega
  rw [hz];rcases this with e | e | e | e | e | e | e | e <;> rw [e] <;> rfl
 have hst := run_storeCells_cells (P := prog) g 0 (Builtin.zeroCells z.cells n).toList 0 w (by rw [hl]; simpa using hc) (fun j _ => by simpa using hf j) h1;simp only [Nat.add_zero] at hst;rw [Gn] at hst;refine ⟨(Builtin.zeroCells z.cells n).toList, ?_⟩;have hzv : ∀ w : World, (zeroValue 64).run prog w = .ok z w := fun w => by rw [hz]; exact JM w
 obtain ⟨k, rfl⟩ : ∃ k, n = k + 1 := ⟨n - 1, by omega⟩;simp [Builtin.clear_, run_underlying underlying31, hzv, hst]
theorem Jd (m : Mi) (q base : Nat) (ad : Option Addr) (cap : Nat) (w : World) (M : CH w q m (.slice ad m.lg.length cap)) (O : AB AO 8 64 base w (.slice ad m.lg.length cap) m.lg) (hq : ∀ g, (Value.slice ad m.lg.length cap).ownBlock = some g → g ≠ q) :
  Calls prog 163 #[.pointer (some (ja q 0))] w fun e w' => e = .returned (.tuple #[]) ∧ CH w' q m (.slice ad 0 cap) ∧ Cr q (Value.slice ad m.lg.length cap).ownBlock w w' := by
 have hcl : ∃ w1, (∀ ty, (Builtin.clear_ #[31] ty #[.slice ad m.lg.length cap]).run prog w = .ok (.tuple #[]) w1) ∧ CH w1 q m (.slice ad m.lg.length cap) ∧ Cr q (Value.slice ad m.lg.length cap).ownBlock w w1 := by
  cases ad with
  | none =>
   refine ⟨w, fun ty => ?_, M, Cr.refl _ _ _⟩;simp [Builtin.clear_, run_underlying underlying31]
  | some a =>
   by_cases h0 : m.lg.length = 0
   ·
    refine ⟨w, fun ty => ?_, M, Cr.refl _ _ _⟩;rw [h0];simp [Builtin.clear_, run_underlying underlying31]
   have ha : ∃ g, a = (ja g 0) := by
    rcases O.2 with ⟨e, _⟩ | ⟨g, c, cur, e, _⟩
    ·
     cases e
    simp only [Value.slice.injEq, Option.some.injEq] at e;exact ⟨g, e.1⟩
   obtain ⟨g, rfl⟩ := ha;have hc : ∀ j, j < m.lg.length * 8 → (w.cell? (ja g j)).isSome = true := fun j hj => by
    rw [World.ownsRow.cellAt O j hj];have hx : (Aa AO m.lg).length = m.lg.length * 8 := EG AT _;rw [List.getElem?_eq_getElem (by omega)];rfl
   have hne : q ≠ g := fun e => hq g rfl e.symm
   obtain ⟨vs, hvs⟩ := JG w 0 g m.lg.length cap (by omega) hc (fun j => O.frozen j);refine ⟨CB w g 0 vs, fun ty => hvs, M.keep (Cp vs w 0 q hne), Cr.put 0 vs⟩
 obtain ⟨w1, hcl, M1, T1⟩ := hcl;have M2 := M1.log (.slice ad 0 cap);have T2 := T1.set 0 (.slice ad 0 cap);have c0 := M.c0;have d0 := M1.c0;have f0 := M1.fr 0;clear M M1 T1 O hq;cases ad with
 | none =>
  go_enter func163, ntmps163
  go_wp2_with (simp only [hcl])
  go_end0
  exact ⟨rfl, M2, T2⟩
 | some a =>
  go_enter func163, ntmps163
  go_wp2_with (simp only [hcl])
  go_end0
  exact ⟨rfl, M2, T2⟩
theorem CH.fallen {w : World} {q : Nat} {m : Mi} {v : Value} (h : CH w q m v) : CH ((((((w.setCell (ja q 1) (.bool false)).setCell (ja q 2) (ji m.li)).setCell (ja q 3) (ji 0)).setCell (ja q 4) (ji 0)).setCell (ja q 5) (ji 0)).setCell (ja q 6) (ji 0)) q ⟨false, m.li, 0, [], 0, 0, 0⟩ v := by
 obtain ⟨h0, h1, h2, h3, h4, h5, h6, hf⟩ := h;have h0 : (w.setCell (ja q 1) (.bool false)).cell? (ja q 0) = _ := (AA (by decide)).trans h0;have h1 : (w.setCell (ja q 1) (.bool false)).cell? (ja q 1) = some (.bool false) := Aj h1;have h2 : (w.setCell (ja q 1) (.bool false)).cell? (ja q 2) = _ := (AA (by decide)).trans h2;have h3 : (w.setCell (ja q 1) (.bool false)).cell? (ja q 3) = _ := (AA (by decide)).trans h3;have h4 : (w.setCell (ja q 1) (.bool false)).cell? (ja q 4) = _ := (AA (by decide)).trans h4;have h5 : (w.setCell (ja q 1) (.bool false)).cell? (ja q 5) = _ := (AA (by decide)).trans h5;have h6 : (w.setCell (ja q 1) (.bool false)).cell? (ja q 6) = _ := (AA (by decide)).trans h6;have h0 : ((w.setCell (ja q 1) (.bool false)).setCell (ja q 2) (ji m.li)).cell? (ja q 0) = _ := (AA (by decide)).trans h0;have h1 : ((w.setCell (ja q 1) (.bool false)).setCell (ja q 2) (ji m.li)).cell? (ja q 1) = _ := (AA (by decide)).trans h1;have h2 : ((w.setCell (ja q 1) (.bool false)).setCell (ja q 2) (ji m.li)).cell? (ja q 2) = some (ji m.li) := Aj h2;have h3 : ((w.setCell (ja q 1) (.bool false)).setCell (ja q 2) (ji m.li)).cell? (ja q 3) = _ := (AA (by decide)).trans h3;have h4 : ((w.setCell (ja q 1) (.bool false)).setCell (ja q 2) (ji m.li)).cell? (ja q 4) = _ := (AA (by decide)).trans h4;have h5 : ((w.setCell (ja q 1) (.bool false)).setCell (ja q 2) (ji m.li)).cell? (ja q 5) = _ := (AA (by decide)).trans h5;have h6 : ((w.setCell (ja q 1) (.bool false)).setCell (ja q 2) (ji m.li)).cell? (ja q 6) = _ := (AA (by decide)).trans h6;have h0 : (((w.setCell (ja q 1) (.bool false)).setCell (ja q 2) (ji m.li)).setCell (ja q 3) (ji 0)).cell? (ja q 0) = _ := (AA (by decide)).trans h0;have h1 : (((w.setCell (ja q 1) (.bool false)).setCell (ja q 2) (ji m.li)).setCell (ja q 3) (ji 0)).cell? (ja q 1) = _ := (AA (by decide)).trans h1;have h2 : (((w.setCell (ja q 1) (.bool false)).setCell (ja q 2) (ji m.li)).setCell (ja q 3) (ji 0)).cell? (ja q 2) = _ := (AA (by decide)).trans h2;have h3 : (((w.setCell (ja q 1) (.bool false)).setCell (ja q 2) (ji m.li)).setCell (ja q 3) (ji 0)).cell? (ja q 3) = some (ji 0) := Aj h3;have h4 : (((w.setCell (ja q 1) (.bool false)).setCell (ja q 2) (ji m.li)).setCell (ja q 3) (ji 0)).cell? (ja q 4) = _ := (AA (by decide)).trans h4;have h5 : (((w.setCell (ja q 1) (.bool false)).setCell (ja q 2) (ji m.li)).setCell (ja q 3) (ji 0)).cell? (ja q 5) = _ := (AA (by decide)).trans h5;have h6 : (((w.setCell (ja q 1) (.bool false)).setCell (ja q 2) (ji m.li)).setCell (ja q 3) (ji 0)).cell? (ja q 6) = _ := (AA (by decide)).trans h6;have h0 : ((((w.setCell (ja q 1) (.bool false)).setCell (ja q 2) (ji m.li)).setCell (ja q 3) (ji 0)).setCell (ja q 4) (ji 0)).cell? (ja q 0) = _ := (AA (by decide)).trans h0;have h1 : ((((w.setCell (ja q 1) (.bool false)).setCell (ja q 2) (ji m.li)).setCell (ja q 3) (ji 0)).setCell (ja q 4) (ji 0)).cell? (ja q 1) = _ := (AA (by decide)).trans h1;have h2 : ((((w.setCell (ja q 1) (.bool false)).setCell (ja q 2) (ji m.li)).setCell (ja q 3) (ji 0)).setCell (ja q 4) (ji 0)).cell? (ja q 2) = _ := (AA (by decide)).trans h2;have h3 : ((((w.setCell (ja q 1) (.bool false)).setCell (ja q 2) (ji m.li)).setCell (ja q 3) (ji 0)).setCell (ja q 4) (ji 0)).cell? (ja q 3) = _ := (AA (by decide)).trans h3;have h4 : ((((w.setCell (ja q 1) (.bool false)).setCell (ja q 2) (ji m.li)).setCell (ja q 3) (ji 0)).setCell (ja q 4) (ji 0)).cell? (ja q 4) = some (ji 0) := Aj h4;have h5 : ((((w.setCell (ja q 1) (.bool false)).setCell (ja q 2) (ji m.li)).setCell (ja q 3) (ji 0)).setCell (ja q 4) (ji 0)).cell? (ja q 5) = _ := (AA (by decide)).trans h5;have h6 : ((((w.setCell (ja q 1) (.bool false)).setCell (ja q 2) (ji m.li)).setCell (ja q 3) (ji 0)).setCell (ja q 4) (ji 0)).cell? (ja q 6) = _ := (AA (by decide)).trans h6;have h0 : (((((w.setCell (ja q 1) (.bool false)).setCell (ja q 2) (ji m.li)).setCell (ja q 3) (ji 0)).setCell (ja q 4) (ji 0)).setCell (ja q 5) (ji 0)).cell? (ja q 0) = _ := (AA (by decide)).trans h0;have h1 : (((((w.setCell (ja q 1) (.bool false)).setCell (ja q 2) (ji m.li)).setCell (ja q 3) (ji 0)).setCell (ja q 4) (ji 0)).setCell (ja q 5) (ji 0)).cell? (ja q 1) = _ := (AA (by decide)).trans h1;have h2 : (((((w.setCell (ja q 1) (.bool false)).setCell (ja q 2) (ji m.li)).setCell (ja q 3) (ji 0)).setCell (ja q 4) (ji 0)).setCell (ja q 5) (ji 0)).cell? (ja q 2) = _ := (AA (by decide)).trans h2;have h3 : (((((w.setCell (ja q 1) (.bool false)).setCell (ja q 2) (ji m.li)).setCell (ja q 3) (ji 0)).setCell (ja q 4) (ji 0)).setCell (ja q 5) (ji 0)).cell? (ja q 3) = _ := (AA (by decide)).trans h3;have h4 : (((((w.setCell (ja q 1) (.bool false)).setCell (ja q 2) (ji m.li)).setCell (ja q 3) (ji 0)).setCell (ja q 4) (ji 0)).setCell (ja q 5) (ji 0)).cell? (ja q 4) = _ := (AA (by decide)).trans h4;have h5 : (((((w.setCell (ja q 1) (.bool false)).setCell (ja q 2) (ji m.li)).setCell (ja q 3) (ji 0)).setCell (ja q 4) (ji 0)).setCell (ja q 5) (ji 0)).cell? (ja q 5) = some (ji 0) := Aj h5;have h6 : (((((w.setCell (ja q 1) (.bool false)).setCell (ja q 2) (ji m.li)).setCell (ja q 3) (ji 0)).setCell (ja q 4) (ji 0)).setCell (ja q 5) (ji 0)).cell? (ja q 6) = _ := (AA (by decide)).trans h6;have h0 : ((((((w.setCell (ja q 1) (.bool false)).setCell (ja q 2) (ji m.li)).setCell (ja q 3) (ji 0)).setCell (ja q 4) (ji 0)).setCell (ja q 5) (ji 0)).setCell (ja q 6) (ji 0)).cell? (ja q 0) = _ := (AA (by decide)).trans h0;have h1 : ((((((w.setCell (ja q 1) (.bool false)).setCell (ja q 2) (ji m.li)).setCell (ja q 3) (ji 0)).setCell (ja q 4) (ji 0)).setCell (ja q 5) (ji 0)).setCell (ja q 6) (ji 0)).cell? (ja q 1) = _ := (AA (by decide)).trans h1;have h2 : ((((((w.setCell (ja q 1) (.bool false)).setCell (ja q 2) (ji m.li)).setCell (ja q 3) (ji 0)).setCell (ja q 4) (ji 0)).setCell (ja q 5) (ji 0)).setCell (ja q 6) (ji 0)).cell? (ja q 2) = _ := (AA (by decide)).trans h2;have h3 : ((((((w.setCell (ja q 1) (.bool false)).setCell (ja q 2) (ji m.li)).setCell (ja q 3) (ji 0)).setCell (ja q 4) (ji 0)).setCell (ja q 5) (ji 0)).setCell (ja q 6) (ji 0)).cell? (ja q 3) = _ := (AA (by decide)).trans h3;have h4 : ((((((w.setCell (ja q 1) (.bool false)).setCell (ja q 2) (ji m.li)).setCell (ja q 3) (ji 0)).setCell (ja q 4) (ji 0)).setCell (ja q 5) (ji 0)).setCell (ja q 6) (ji 0)).cell? (ja q 4) = _ := (AA (by decide)).trans h4;have h5 : ((((((w.setCell (ja q 1) (.bool false)).setCell (ja q 2) (ji m.li)).setCell (ja q 3) (ji 0)).setCell (ja q 4) (ji 0)).setCell (ja q 5) (ji 0)).setCell (ja q 6) (ji 0)).cell? (ja q 5) = _ := (AA (by decide)).trans h5;have h6 : ((((((w.setCell (ja q 1) (.bool false)).setCell (ja q 2) (ji m.li)).setCell (ja q 3) (ji 0)).setCell (ja q 4) (ji 0)).setCell (ja q 5) (ji 0)).setCell (ja q 6) (ji 0)).cell? (ja q 6) = some (ji 0) := Aj h6;refine ⟨h0, h1, h2, h3, h4, h5, h6, fun i => ?_⟩;rw [World.frozen?_setCell, World.frozen?_setCell, World.frozen?_setCell, World.frozen?_setCell, World.frozen?_setCell, World.frozen?_setCell];exact hf i
theorem KX (m : Mi) (q base : Nat) (ad : Option Addr) (cap : Nat) (w : World) (M : CH w q m (.slice ad m.lg.length cap)) (O : AB AO 8 64 base w (.slice ad m.lg.length cap) m.lg) (hq : ∀ g, (Value.slice ad m.lg.length cap).ownBlock = some g → g ≠ q) :
  Calls prog 143 #[.pointer (some (ja q 0))] w fun e w' => e = .returned (.tuple #[]) ∧ CH w' q ⟨false, m.li, 0, [], 0, 0, 0⟩ (.slice ad 0 cap) ∧ Cr q (Value.slice ad m.lg.length cap).ownBlock w w' := by
 go_enter func143, ntmps143
 go_wp2_with fail
 go_at_call 163
 refine (Jd m q base ad cap w M O hq).mono ?_;rintro e w1 ⟨rfl, M1, T1⟩;have M2 := M1.fallen;have T3 : Cr q (Value.slice ad m.lg.length cap).ownBlock w ((((((w1.setCell (ja q 1) (.bool false)).setCell (ja q 2) (ji m.li)).setCell (ja q 3) (ji 0)).setCell (ja q 4) (ji 0)).setCell (ja q 5) (ji 0)).setCell (ja q 6) (ji 0)) := ((((((T1.set 1 _).set 2 _).set 3 _).set 4 _).set 5 _).set 6 _);clear T1 O hq M;obtain ⟨c0, c1, c2, c3, c4, c5, c6, fr⟩ := M1;have f1 := fr 1;have f2 := fr 2;have f3 := fr 3;have f4 := fr 4;have f5 := fr 5;have f6 := fr 6;clear fr;go_wp2
 go_end0
 exact ⟨rfl, M2, T3⟩
open Go.MuLone
structure Co (w : World) (q : Nat) (l : Int) (r : Rg) : Prop where
 c0 : w.cell? (ja q 0) = some (ji r.ep)
 c1 : w.cell? (ja q 1) = some (.int .i32 l)
 c2 : w.cell? (ja q 2) = some (.int .u32 0)
 c3 : w.cell? (ja q 3) = some (ji r.ow)
 c4 : w.cell? (ja q 4) = some (ji r.pa)
 fr : ∀ i, w.frozen? (ja q i) = false
theorem Co.keep {w w' : World} {q : Nat} {l : Int} {r : Rg} (h : Co w q l r) (k : w'.heap[q]? = w.heap[q]?) : Co w' q l r :=
 ⟨(World.cell?_of_block (a := (ja q 0)) k).trans h.c0, (World.cell?_of_block (a := (ja q 1)) k).trans h.c1, (World.cell?_of_block (a := (ja q 2)) k).trans h.c2, (World.cell?_of_block (a := (ja q 3)) k).trans h.c3, (World.cell?_of_block (a := (ja q 4)) k).trans h.c4, fun i => (World.frozen?_of_block (a := (ja q i)) k).trans (h.fr i)⟩
theorem Co.lt {w : World} {q : Nat} {l : Int} {r : Rg} (h : Co w q l r) : q < w.heap.size := World.block_lt_of_cell? w _ h.c0
theorem Co.below {w w' : World} {q n : Nat} {l : Int} {r : Rg} (h : Co w q l r) (k : Below n w w') (hq : q < n) : Co w' q l r := h.keep (k.block q hq)
theorem Co.lock {w : World} {q : Nat} {l : Int} {r : Rg} (h : Co w q l r) (l' : Int) : Co (w.setCell (ja q 1) (.int .i32 l')) q l' r := by
 obtain ⟨h0, h1, h2, h3, h4, hf⟩ := h;refine ⟨(AA (by decide)).trans h0, Aj h1, (AA (by decide)).trans h2, (AA (by decide)).trans h3, (AA (by decide)).trans h4, fun i => ?_⟩;rw [World.frozen?_setCell]; exact hf i
theorem Co.setEp {w : World} {q : Nat} {l : Int} {r : Rg} (h : Co w q l r) (x : Int) : Co (w.setCell (ja q 0) (ji x)) q l ⟨x, r.ow, r.pa⟩ := by
 obtain ⟨h0, h1, h2, h3, h4, hf⟩ := h;refine ⟨Aj h0, (AA (by decide)).trans h1, (AA (by decide)).trans h2, (AA (by decide)).trans h3, (AA (by decide)).trans h4, fun i => ?_⟩;rw [World.frozen?_setCell]; exact hf i
theorem KI (x : Int) (q : Nat) (w : World) (h : w.cell? (ja q 0) = some (ji x)) :
  Calls prog 147 #[.pointer (some (ja q 0))] w fun e w' => e = .returned (ji x) ∧ w' = w := by
 have hl := run_call_load (P := prog) func172 (by kernel_rfl) (by kernel_rfl) (by kernel_rfl) .i64 (by kernel_rfl) h;go_enter func147, ntmps147
 go_wp2
 go_ret
 exact ⟨rfl, rfl⟩
theorem JQ (x : Int) (u : Value) (q : Nat) (w : World) (h : w.cell? (ja q 0) = some u) (hz : w.frozen? (ja q 0) = false) :
  Calls prog 116 #[.pointer (some (ja q 0)), ji x] w fun e w' => e = .returned (.tuple #[]) ∧ w' = w.setCell (ja q 0) (ji x) := by
 have hl := run_call_store (P := prog) func144 (by kernel_rfl) (by kernel_rfl) (by kernel_rfl) (by kernel_rfl) (k := .i64) (y := x) h hz;go_enter func116, ntmps116
 go_wp2
 exact bodyPost_end (results_none rfl _ _ _) rfl ⟨rfl, rfl⟩
theorem Jc (x : Int) (q : Nat) (w : World) (h : w.cell? (ja q 0) = some (ji x)) :
  Calls prog 119 #[.pointer (some (ja q 0))] w fun e w' => e = .returned (ji x) ∧ w' = w := by
 go_enter func119, ntmps119
 go_wp2_with fail
 go_at_call 147
 refine (KI x q w h).mono ?_;rintro e w' ⟨rfl, rfl⟩;go_wp2
 go_ret
 exact ⟨rfl, rfl⟩
theorem KM (r : Rg) (s ep : Int) (q : Nat) (w : World) (G : Co w q 0 r) :
  Calls prog 73 #[.pointer (some (ja q 0)), ji s, ji ep] w fun e w' => e = .returned (.bool (decide (r.ow = s) && decide (r.ep = ep))) ∧ Co w' q 0 r ∧ Cr q none w w' := by
 obtain ⟨R, hR⟩ := AC (decide (r.ow = s) && decide (r.ep = ep));rw [← hR];replace hR : Hid _ := hR;go_enter_defers func73, ntmps73
 go_wp2_with fail
 go_at_call 117
 refine (lock_free Tryz.muLib (ja q 1) w G.c1 (G.fr 1)).mono ?_;rintro e w' ⟨rfl, rfl⟩;obtain ⟨v, hv⟩ := AC (w.setCell (ja q 1) (.int .i32 1));have G1 : Co v q 1 r := by rw [hv]; exact G.lock 1
 have T1 : Cr q none w v := by rw [hv]; exact (Cr.refl _ _ _).set 1 _
 rw [← hv];clear hv G;have c0 := G1.c0;have c3 := G1.c3;by_cases e1 : r.ow = s
 rotate_left;focus
  have h1 : decide (r.ow = s) = false := decide_eq_false e1;have hN : Hid (R = false) := by unfold Hid; rw [hR.out, h1]; rfl
 rotate_left;focus
  have h1 : decide (r.ow = s) = true := decide_eq_true e1;have hN : Hid (R = decide (r.ep = ep)) := by unfold Hid; rw [hR.out, h1]; rfl
  replace e1 : Hid _ := e1;go_wp2_with fail
  go_at_call 119
  refine (Jc r.ep q v c0).mono ?_;rintro e w' ⟨rfl, rfl⟩
 rotate_left;all_goals
  go_wp2
  refine leaves_cons (f := 118) (args := #[.pointer (some (ja q 1))]) (by simp) (by simp [go_sem]) ?_;refine (unlock_deferred Tryz.muLib (ja q 1) .returning _ G1.c1 (G1.fr 1)).mono ?_;rintro e u' w'' ⟨rfl, rfl, rfl⟩;exact ⟨_, results_tmp rfl _ _ _, by rw [hN.out]; rfl, G1.lock 0, T1.set 1 _⟩
theorem JU (r : Rg) (w : World) :
  Calls prog 72 #[.agg #[ji r.ep, ji r.ow, ji r.pa]] w fun e w' => ∃ q, e = .returned (.pointer (some (ja q 0))) ∧ Co w' q 0 r ∧ w.heap.size < q ∧ Bw w w' := by
 obtain ⟨y, hy⟩ := AC ((w.alloc (Obj.cells #[ji r.ep, ji r.ow, ji r.pa] 27)).alloc (Obj.cells #[ji 0, .int .i32 0, .int .u32 0, ji r.ow, ji r.pa] 141));have B0 : Bw w y := by rw [hy]; exact ((Below.refl _ _).alloc (Nat.le_refl _) _).alloc (by simp) _
 have A : Al y w.heap.size r := by rw [hy]; constructor <;> simp [go_sem]
 have G : Co y (w.heap.size + 1) 0 ⟨0, r.ow, r.pa⟩ := by rw [hy]; constructor <;> simp [go_sem]
 go_enter func72, ntmps72
 go_upto_region 2 with fail
 rw [← hy];clear hy;refine AV (fun Y => Al Y w.heap.size r) fun u0 kd => ?_
 have hs0 : Al u0 w.heap.size r := A.below kd A.lt;have G0 := G.below kd G.lt;refine tw 0 10 (.pointer (some ⟨w.heap.size + 1, 0, none⟩)) ?_;refine tw 1 11 (.pointer (some ⟨w.heap.size + 1, 0, none⟩)) ?_;refine tw 2 12 (.pointer (some ⟨w.heap.size + 1, 0, none⟩)) ?_;refine tw 3 13 (.pointer (some (ja w.heap.size 0))) ?_;refine tw 4 14 (ji r.ep) ?_ (hy := by intro Y hSw; have X := hSw.all; go_simp);refine w1 5 fun Kz hKz => ?_
 go_simp
 go_at_call 116
 refine (JQ r.ep _ (w.heap.size + 1) u0 G0.c0 (G0.fr 0)).mono ?_;rintro e u1 ⟨rfl, hu1⟩;have G1 : Co u1 (w.heap.size + 1) 0 r := by rw [hu1]; exact G0.setEp r.ep
 have hs1 : Al u1 w.heap.size r := hs0.keep (by rw [hu1]; exact AF (by show w.heap.size ≠ w.heap.size + 1; omega));have B1 : Bw w u1 := by rw [hu1]; exact (AE B0 kd).setCell (p := ⟨w.heap.size + 1, 0, none⟩) (by show _ ≤ w.heap.size + 1; omega) _
 clear hu1;refine hKz _ _ ⟨hs1, ?_⟩;clear hKz Kz;refine AR ?_;go_wp2
 go_ret
 exact ⟨_, rfl, G1, by omega, B1⟩
theorem HT (r : Rg) (w : World) : Calls prog 48 #[.agg #[ji r.ep, ji r.ow, ji r.pa]] w fun e w' => e = .returned (.bool (BV r)) ∧ Bw w w' := by
 obtain ⟨R, hR⟩ := AC (BV r);rw [← hR];replace hR : Hid _ := hR;obtain ⟨y, hy, B0⟩ := AI w (Obj.cells #[ji r.ep, ji r.ow, ji r.pa] 27);have A : Al y w.heap.size r := by rw [hy]; exact Al.new w _ r
 go_enter func48, ntmps48
 go_upto_region 1 with fail
 rw [← hy];clear hy;replace A := A.all;by_cases e1 : 1 ≤ r.ep
 ·
  have d1 : decide (1 ≤ r.ep) = true := decide_eq_true e1;by_cases e2 : r.ep ≤ 100000
  ·
   have d2 : decide (r.ep ≤ 100000) = true := decide_eq_true e2;by_cases e3 : r.ow = 0
   focus
    have d3 : decide (r.ow = 0) = true := decide_eq_true e3;have b3 : (r.ow == 0) = true := by simpa using e3
    have hN : Hid (R = BR r.pa) := by unfold Hid; rw [hR.out]; unfold BV; rw [decide_eq_true (⟨e1, e2⟩ : 1 ≤ r.ep ∧ r.ep ≤ 100000), decide_eq_true (show 0 ≤ r.ow ∧ r.ow ≤ 1 by omega)]; rfl
    replace e1 : Hid _ := e1;replace e2 : Hid _ := e2;replace e3 : Hid _ := e3
   rotate_left;focus
    have d3 : decide (r.ow = 0) = false := decide_eq_false e3;have b3 : (r.ow == 0) = false := by simpa using e3
    by_cases e4 : r.ow = 1
    focus
     have d4 : decide (r.ow = 1) = true := decide_eq_true e4;have b4 : (r.ow == 1) = true := by simpa using e4
     have hN : Hid (R = BR r.pa) := by unfold Hid; rw [hR.out]; unfold BV; rw [decide_eq_true (⟨e1, e2⟩ : 1 ≤ r.ep ∧ r.ep ≤ 100000), decide_eq_true (show 0 ≤ r.ow ∧ r.ow ≤ 1 by omega)]; rfl
     replace e1 : Hid _ := e1;replace e2 : Hid _ := e2;replace e3 : Hid _ := e3;replace e4 : Hid _ := e4
    rotate_left
    ·
     have d4 : decide (r.ow = 1) = false := decide_eq_false e4;have b4 : (r.ow == 1) = false := by simpa using e4
     have hN : Hid (R = false) := by unfold Hid; rw [hR.out]; unfold BV; rw [decide_eq_true (⟨e1, e2⟩ : 1 ≤ r.ep ∧ r.ep ≤ 100000), decide_eq_false (show ¬ (0 ≤ r.ow ∧ r.ow ≤ 1) by omega)]; rfl
     replace e1 : Hid _ := e1;replace e2 : Hid _ := e2;replace e3 : Hid _ := e3;replace e4 : Hid _ := e4;go_wp2
     go_ret
     exact ⟨by rw [hN.out]; rfl, B0⟩
   rotate_left;all_goals
    go_wp2_with fail
    go_at_call 92
    refine (En r.pa y).mono ?_;rintro e w' ⟨rfl, rfl⟩;go_wp2
    go_ret
    exact ⟨by rw [hN.out]; rfl, B0⟩
  have d2 : decide (r.ep ≤ 100000) = false := decide_eq_false e2;have hN : Hid (R = false) := by unfold Hid; rw [hR.out]; unfold BV; rw [decide_eq_false (show ¬ (1 ≤ r.ep ∧ r.ep ≤ 100000) by omega)]; rfl
  replace e1 : Hid _ := e1;replace e2 : Hid _ := e2;go_wp2
  go_ret
  exact ⟨by rw [hN.out]; rfl, B0⟩
 have d1 : decide (1 ≤ r.ep) = false := decide_eq_false e1;have hN : Hid (R = false) := by unfold Hid; rw [hR.out]; unfold BV; rw [decide_eq_false (show ¬ (1 ≤ r.ep ∧ r.ep ≤ 100000) by omega)]; rfl
 replace e1 : Hid _ := e1;go_wp2
 go_ret
 exact ⟨by rw [hN.out]; rfl, B0⟩
theorem GE (m : Mi) (q : Nat) (ad : Option Addr) (cap : Nat) (w : World) (M : CH w q m (.slice ad m.lg.length cap)) :
    Calls prog 99 #[.pointer (some ⟨q, 0, none⟩)] w fun e w' => e = .returned (.agg #[.bool m.up, .int .i64 m.li, .int .i64 m.ep, .slice ad m.lg.length cap, .int .i64 m.sd, .int .i64 m.ac, .int .i64 m.al]) ∧ Below w.heap.size w w' := by
  obtain ⟨y, hy⟩ : ∃ y, y = w.alloc (Obj.cells #[.bool false, .int .i64 0, .int .i64 0, .slice none 0 0, .int .i64 0, .int .i64 0, .int .i64 0] 52) := ⟨_, rfl⟩
  have B0 : Below w.heap.size w y := by rw [hy]; exact Ae _
  have A1 : AQ y w.heap.size ⟨false, 0, 0, [], 0, 0, 0⟩ (.slice none 0 0) := by rw [hy]; constructor <;> simp [go_sem]
  have S0 := A1.lt
  have lq := M.lt
  have M := M.below B0 M.lt
  go_enter func99, ntmps99
  go_upto_region 1 with fail
  rw [← hy]
  clear hy
  refine wp_region_held (S := fun Y => Below w.heap.size y Y) (by kernel_rfl) ?_
  change wpAnyH _ _ _ _ _ _ _ _ (World.drew _)
  have hb0 : Below y.heap.size y y.drew := (Below.refl _ _).drew
  obtain ⟨u0, hy0'⟩ : ∃ y_, y_ = y.drew := ⟨_, rfl⟩
  rw [← hy0'] at hb0 ⊢
  clear hy0'
  have hc0 : Below w.heap.size y u0 := hb0.mono (by omega)
  refine Ak 0 3 (.pointer (some ⟨q, 0, none⟩)) rfl rfl (by kernel_rfl) (by kernel_rfl) (by kernel_rfl) (fun _ _ _ h => h) (by kernel_rfl) (by (intro w hSw; go_simp)) (by assumption) ?_
  simp only [List.set_cons_zero, List.set_cons_succ]
  refine Ak 1 4 (.pointer (some ⟨q, 0, none⟩)) rfl rfl (by kernel_rfl) (by kernel_rfl) (by kernel_rfl) (fun _ _ _ h => h) (by kernel_rfl) (by (intro w hSw; go_simp)) (by assumption) ?_
  simp only [List.set_cons_zero, List.set_cons_succ]
  refine Ak 2 5 (.pointer (some ⟨q, 1, none⟩)) rfl rfl (by kernel_rfl) (by kernel_rfl) (by kernel_rfl) (fun _ _ _ h => h) (by kernel_rfl) (by (intro w hSw; go_simp)) (by assumption) ?_
  simp only [List.set_cons_zero, List.set_cons_succ]
  refine Ak 3 6 (.pointer (some ⟨q, 1, none⟩)) rfl rfl (by kernel_rfl) (by kernel_rfl) (by kernel_rfl) (fun _ _ _ h => h) (by kernel_rfl) (by (intro w hSw; go_simp)) (by assumption) ?_
  simp only [List.set_cons_zero, List.set_cons_succ]
  refine Ak 4 7 (.bool m.up) rfl rfl (by kernel_rfl) (by kernel_rfl) (by kernel_rfl) (fun _ _ _ h => h) (by kernel_rfl) (by (intro Y hSw; obtain ⟨X0, X1, X2, X3, X4, X5, X6, XF⟩ := M.below hSw lq; go_simp)) (by assumption) ?_
  simp only [List.set_cons_zero, List.set_cons_succ]
  refine Ak 5 8 (.pointer (some ⟨q, 0, none⟩)) rfl rfl (by kernel_rfl) (by kernel_rfl) (by kernel_rfl) (fun _ _ _ h => h) (by kernel_rfl) (by (intro w hSw; go_simp)) (by assumption) ?_
  simp only [List.set_cons_zero, List.set_cons_succ]
  refine Ak 6 9 (.pointer (some ⟨q, 0, none⟩)) rfl rfl (by kernel_rfl) (by kernel_rfl) (by kernel_rfl) (fun _ _ _ h => h) (by kernel_rfl) (by (intro w hSw; go_simp)) (by assumption) ?_
  simp only [List.set_cons_zero, List.set_cons_succ]
  refine Ak 7 10 (.pointer (some ⟨q, 1, none⟩)) rfl rfl (by kernel_rfl) (by kernel_rfl) (by kernel_rfl) (fun _ _ _ h => h) (by kernel_rfl) (by (intro w hSw; go_simp)) (by assumption) ?_
  simp only [List.set_cons_zero, List.set_cons_succ]
  refine Ak 8 11 (.pointer (some ⟨q, 2, none⟩)) rfl rfl (by kernel_rfl) (by kernel_rfl) (by kernel_rfl) (fun _ _ _ h => h) (by kernel_rfl) (by (intro w hSw; go_simp)) (by assumption) ?_
  simp only [List.set_cons_zero, List.set_cons_succ]
  refine Ak 9 12 (.int .i64 m.li) rfl rfl (by kernel_rfl) (by kernel_rfl) (by kernel_rfl) (fun _ _ _ h => h) (by kernel_rfl) (by (intro Y hSw; obtain ⟨X0, X1, X2, X3, X4, X5, X6, XF⟩ := M.below hSw lq; go_simp)) (by assumption) ?_
  simp only [List.set_cons_zero, List.set_cons_succ]
  refine Ak 10 13 (.pointer (some ⟨q, 0, none⟩)) rfl rfl (by kernel_rfl) (by kernel_rfl) (by kernel_rfl) (fun _ _ _ h => h) (by kernel_rfl) (by (intro w hSw; go_simp)) (by assumption) ?_
  simp only [List.set_cons_zero, List.set_cons_succ]
  refine Ak 11 14 (.pointer (some ⟨q, 0, none⟩)) rfl rfl (by kernel_rfl) (by kernel_rfl) (by kernel_rfl) (fun _ _ _ h => h) (by kernel_rfl) (by (intro w hSw; go_simp)) (by assumption) ?_
  simp only [List.set_cons_zero, List.set_cons_succ]
  refine Ak 12 15 (.pointer (some ⟨q, 1, none⟩)) rfl rfl (by kernel_rfl) (by kernel_rfl) (by kernel_rfl) (fun _ _ _ h => h) (by kernel_rfl) (by (intro w hSw; go_simp)) (by assumption) ?_
  simp only [List.set_cons_zero, List.set_cons_succ]
  refine Ak 13 16 (.pointer (some ⟨q, 3, none⟩)) rfl rfl (by kernel_rfl) (by kernel_rfl) (by kernel_rfl) (fun _ _ _ h => h) (by kernel_rfl) (by (intro w hSw; go_simp)) (by assumption) ?_
  simp only [List.set_cons_zero, List.set_cons_succ]
  refine Ak 14 17 (.int .i64 m.ep) rfl rfl (by kernel_rfl) (by kernel_rfl) (by kernel_rfl) (fun _ _ _ h => h) (by kernel_rfl) (by (intro Y hSw; obtain ⟨X0, X1, X2, X3, X4, X5, X6, XF⟩ := M.below hSw lq; go_simp)) (by assumption) ?_
  simp only [List.set_cons_zero, List.set_cons_succ]
  refine Ak 15 18 (.pointer (some ⟨q, 0, none⟩)) rfl rfl (by kernel_rfl) (by kernel_rfl) (by kernel_rfl) (fun _ _ _ h => h) (by kernel_rfl) (by (intro w hSw; go_simp)) (by assumption) ?_
  simp only [List.set_cons_zero, List.set_cons_succ]
  refine Ak 16 19 (.pointer (some ⟨q, 0, none⟩)) rfl rfl (by kernel_rfl) (by kernel_rfl) (by kernel_rfl) (fun _ _ _ h => h) (by kernel_rfl) (by (intro w hSw; go_simp)) (by assumption) ?_
  simp only [List.set_cons_zero, List.set_cons_succ]
  refine Ak 17 20 (.pointer (some ⟨q, 0, none⟩)) rfl rfl (by kernel_rfl) (by kernel_rfl) (by kernel_rfl) (fun _ _ _ h => h) (by kernel_rfl) (by (intro w hSw; go_simp)) (by assumption) ?_
  simp only [List.set_cons_zero, List.set_cons_succ]
  refine Ak 18 21 (.pointer (some ⟨q, 0, none⟩)) rfl rfl (by kernel_rfl) (by kernel_rfl) (by kernel_rfl) (fun _ _ _ h => h) (by kernel_rfl) (by (intro w hSw; go_simp)) (by assumption) ?_
  simp only [List.set_cons_zero, List.set_cons_succ]
  refine Ak 19 22 (.slice ad m.lg.length cap) rfl rfl (by kernel_rfl) (by kernel_rfl) (by kernel_rfl) (fun _ _ _ h => h) (by kernel_rfl) (by (intro Y hSw; obtain ⟨X0, X1, X2, X3, X4, X5, X6, XF⟩ := M.below hSw lq; go_simp)) (by assumption) ?_
  simp only [List.set_cons_zero, List.set_cons_succ]
  refine Ak 20 23 (.pointer (some ⟨q, 0, none⟩)) rfl rfl (by kernel_rfl) (by kernel_rfl) (by kernel_rfl) (fun _ _ _ h => h) (by kernel_rfl) (by (intro w hSw; go_simp)) (by assumption) ?_
  simp only [List.set_cons_zero, List.set_cons_succ]
  refine Ak 21 24 (.pointer (some ⟨q, 0, none⟩)) rfl rfl (by kernel_rfl) (by kernel_rfl) (by kernel_rfl) (fun _ _ _ h => h) (by kernel_rfl) (by (intro w hSw; go_simp)) (by assumption) ?_
  simp only [List.set_cons_zero, List.set_cons_succ]
  refine Ak 22 25 (.pointer (some ⟨q, 1, none⟩)) rfl rfl (by kernel_rfl) (by kernel_rfl) (by kernel_rfl) (fun _ _ _ h => h) (by kernel_rfl) (by (intro w hSw; go_simp)) (by assumption) ?_
  simp only [List.set_cons_zero, List.set_cons_succ]
  refine Ak 23 26 (.pointer (some ⟨q, 4, none⟩)) rfl rfl (by kernel_rfl) (by kernel_rfl) (by kernel_rfl) (fun _ _ _ h => h) (by kernel_rfl) (by (intro w hSw; go_simp)) (by assumption) ?_
  simp only [List.set_cons_zero, List.set_cons_succ]
  refine Ak 24 27 (.int .i64 m.sd) rfl rfl (by kernel_rfl) (by kernel_rfl) (by kernel_rfl) (fun _ _ _ h => h) (by kernel_rfl) (by (intro Y hSw; obtain ⟨X0, X1, X2, X3, X4, X5, X6, XF⟩ := M.below hSw lq; go_simp)) (by assumption) ?_
  simp only [List.set_cons_zero, List.set_cons_succ]
  refine Ak 25 28 (.pointer (some ⟨q, 0, none⟩)) rfl rfl (by kernel_rfl) (by kernel_rfl) (by kernel_rfl) (fun _ _ _ h => h) (by kernel_rfl) (by (intro w hSw; go_simp)) (by assumption) ?_
  simp only [List.set_cons_zero, List.set_cons_succ]
  refine Ak 26 29 (.pointer (some ⟨q, 0, none⟩)) rfl rfl (by kernel_rfl) (by kernel_rfl) (by kernel_rfl) (fun _ _ _ h => h) (by kernel_rfl) (by (intro w hSw; go_simp)) (by assumption) ?_
  simp only [List.set_cons_zero, List.set_cons_succ]
  refine Ak 27 30 (.pointer (some ⟨q, 1, none⟩)) rfl rfl (by kernel_rfl) (by kernel_rfl) (by kernel_rfl) (fun _ _ _ h => h) (by kernel_rfl) (by (intro w hSw; go_simp)) (by assumption) ?_
  simp only [List.set_cons_zero, List.set_cons_succ]
  refine Ak 28 31 (.pointer (some ⟨q, 5, none⟩)) rfl rfl (by kernel_rfl) (by kernel_rfl) (by kernel_rfl) (fun _ _ _ h => h) (by kernel_rfl) (by (intro w hSw; go_simp)) (by assumption) ?_
  simp only [List.set_cons_zero, List.set_cons_succ]
  refine Ak 29 32 (.int .i64 m.ac) rfl rfl (by kernel_rfl) (by kernel_rfl) (by kernel_rfl) (fun _ _ _ h => h) (by kernel_rfl) (by (intro Y hSw; obtain ⟨X0, X1, X2, X3, X4, X5, X6, XF⟩ := M.below hSw lq; go_simp)) (by assumption) ?_
  simp only [List.set_cons_zero, List.set_cons_succ]
  refine Ak 30 33 (.pointer (some ⟨q, 0, none⟩)) rfl rfl (by kernel_rfl) (by kernel_rfl) (by kernel_rfl) (fun _ _ _ h => h) (by kernel_rfl) (by (intro w hSw; go_simp)) (by assumption) ?_
  simp only [List.set_cons_zero, List.set_cons_succ]
  refine Ak 31 34 (.pointer (some ⟨q, 0, none⟩)) rfl rfl (by kernel_rfl) (by kernel_rfl) (by kernel_rfl) (fun _ _ _ h => h) (by kernel_rfl) (by (intro w hSw; go_simp)) (by assumption) ?_
  simp only [List.set_cons_zero, List.set_cons_succ]
  refine Ak 32 35 (.pointer (some ⟨q, 1, none⟩)) rfl rfl (by kernel_rfl) (by kernel_rfl) (by kernel_rfl) (fun _ _ _ h => h) (by kernel_rfl) (by (intro w hSw; go_simp)) (by assumption) ?_
  simp only [List.set_cons_zero, List.set_cons_succ]
  refine Ak 33 36 (.pointer (some ⟨q, 6, none⟩)) rfl rfl (by kernel_rfl) (by kernel_rfl) (by kernel_rfl) (fun _ _ _ h => h) (by kernel_rfl) (by (intro w hSw; go_simp)) (by assumption) ?_
  simp only [List.set_cons_zero, List.set_cons_succ]
  refine Ak 34 37 (.int .i64 m.al) rfl rfl (by kernel_rfl) (by kernel_rfl) (by kernel_rfl) (fun _ _ _ h => h) (by kernel_rfl) (by (intro Y hSw; obtain ⟨X0, X1, X2, X3, X4, X5, X6, XF⟩ := M.below hSw lq; go_simp)) (by assumption) ?_
  simp only [List.set_cons_zero, List.set_cons_succ]
  refine Ak 35 38 (.agg #[.bool m.up, .int .i64 m.li, .int .i64 m.ep, .slice ad m.lg.length cap, .int .i64 m.sd, .int .i64 m.ac, .int .i64 m.al]) rfl rfl (by kernel_rfl) (by kernel_rfl) (by kernel_rfl) (fun _ _ _ h => h) (by kernel_rfl) (by (intro w hSw; go_simp)) (by assumption) ?_
  simp only [List.set_cons_zero, List.set_cons_succ]
  refine wpAnyH_all (rs := [36]) (by kernel_rfl) (by simp) ?_
  intro i hi; obtain rfl : i = 36 := by simpa using hi
  refine wpOp_step rfl (fun Kz hKz => ?_)
  rw [if_pos (by kernel_rfl)]
  have A2 := A1.below hb0 A1.lt
  have cc := A2
  obtain ⟨z0, z1, z2, z3, z4, z5, z6, zf⟩ := cc
  have g0 := zf 0
  have g1 := zf 1
  have g2 := zf 2
  have g3 := zf 3
  have g4 := zf 4
  have g5 := zf 5
  have g6 := zf 6
  go_simp
  clear z0 z1 z2 z3 z4 z5 z6 zf g0 g1 g2 g3 g4 g5 g6
  have A3 := A2.put m (.slice ad m.lg.length cap)
  have hc1 := Dq (q := w.heap.size) m (.slice ad m.lg.length cap) hc0 (Nat.le_refl _)
  obtain ⟨u1, hu1⟩ : ∃ y_, y_ = (((((((u0.setCell ⟨w.heap.size, 0, none⟩ (.bool m.up)).setCell ⟨w.heap.size, 1, none⟩ (.int .i64 m.li)).setCell ⟨w.heap.size, 2, none⟩ (.int .i64 m.ep)).setCell ⟨w.heap.size, 3, none⟩ (.slice ad m.lg.length cap)).setCell ⟨w.heap.size, 4, none⟩ (.int .i64 m.sd)).setCell ⟨w.heap.size, 5, none⟩ (.int .i64 m.ac)).setCell ⟨w.heap.size, 6, none⟩ (.int .i64 m.al)) := ⟨_, rfl⟩
  rw [← hu1] at A3 hc1 ⊢
  clear hu1
  refine hKz _ _ ⟨hc1, ?_⟩
  clear hKz Kz hi
  refine wpAnyH_done (by kernel_rfl) ?_ _
  have B9 := B0.trans hc1
  obtain ⟨z0, z1, z2, z3, z4, z5, z6, zf⟩ := A3
  clear zf
  go_wp2
  refine bodyPost_ret (v := .agg #[.bool m.up, .int .i64 m.li, .int .i64 m.ep, .slice ad m.lg.length cap, .int .i64 m.sd, .int .i64 m.ac, .int .i64 m.al]) (by simp [results, results99, go_sem, *]) rfl ⟨rfl, B9⟩
end Go.Proofs.YtjmnaeeknomiaaaGreat
