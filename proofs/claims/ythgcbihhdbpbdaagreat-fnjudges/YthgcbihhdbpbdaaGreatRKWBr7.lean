import Derived.Test.YthgcbihhdbpbdaaGreatRKWBr6
import Derived.Test.YthgcbihhdbpbdaaGreatRKWBr4
namespace Go.Proofs.YthgcbihhdbpbdaaGreat
open Go.ChangeShapes Go.WideShapes Go.ChangeAt Go.RowKit
open Go.ChangeMaps (open_string shut_string)
set_option linter.unusedVariables false
set_option maxRecDepth 100000
set_option maxHeartbeats 32000000
set_option linter.unusedSimpArgs false
open Go.Proofs.Tryz
attribute [local go_sem] ji ja pc
structure AL (g B : Nat) (a w : World) : Prop where
 size : a.heap.size ≤ w.heap.size
 block : ∀ k, k < B → k ≠ g → w.heap[k]? = a.heap[k]?
theorem AL.of {g B : Nat} {a w : World} (h : Below B a w) : AL g B a w := ⟨h.size, fun k hk _ => h.block k hk⟩
theorem AL.putAll {g B o : Nat} {a w : World} (vs : List Value) (h : AL g B a w) : AL g B a (CN w g o vs) :=
 ⟨by rw [Ih]; exact h.size, fun k hk hne => by rw [DD _ _ _ _ hne]; exact h.block k hk hne⟩
theorem Bo.bar {g B q : Nat} {a w : World} {x : Pt} (h : Bo a q x) (k : AL g B a w) (hq : q < B) (hne : q ≠ g) : Bo w q x := h.keep (k.block q hq hne)
theorem Ab.bar {g B q : Nat} {a w : World} {id : Int} {v : Value} (h : Ab a q id v) (k : AL g B a w) (hq : q < B) (hne : q ≠ g) : Ab w q id v := h.keep (k.block q hq hne)
theorem FL (x : Pt) (role : Int) : CA x role = Dx x role := by
 unfold Dx;cases hu : x.up
 ·
  unfold CA; rw [hu]; simp
 simp
theorem AD.row {X : Type} {enc : X → List Value} {n : Nat} {T : TypeId} {base : Nat} {w : World} {ad : Option Addr} {len cap : Nat} {L : List X} (h : AD enc n T base w (.slice ad len cap) L) (h0 : 0 < L.length) : ∃ g, ad = some (ja g 0) ∧ base ≤ g ∧ g < w.heap.size := by
 rcases h.2 with ⟨_, q⟩ | ⟨g, c, cur, q, _⟩
 ·
  omega
 simp only [Value.slice.injEq] at q;obtain ⟨rfl, rfl, rfl⟩ := q;have := h.lt g rfl;exact ⟨g, rfl, this⟩
theorem JY (id : Int) (ad : Option Addr) (cap : Nat) (L : List Pt) (k : Nat) (w : World) (hv : AH AJ w ad L) (hl : L.length ≤ 1048576) (hb : Bp id L = true) (hk : k < L.length) :
  Calls prog 186 #[.agg #[ji id, .slice ad L.length cap], ji (k : Int)] w fun e w' => e = .returned (ji (Cm id L k)) ∧ Bw w w' := by
 have hB := hv.lt AK (by omega);obtain ⟨y, hy, B0⟩ := AI w (Obj.cells #[ji id, .slice ad L.length cap] 42);have A0 : Ab y w.heap.size id (.slice ad L.length cap) := by rw [hy]; exact Ab.new w _ _ _
 have S0 := A0.lt;have hv1 := hv.below B0 hB;have hB1 := hv1.lt AK (by omega);obtain ⟨ρ, hρ⟩ := AB (Cm id L k);rw [← hρ];replace hρ : Hid _ := hρ;replace hb : Hid _ := hb;go_enter func186, ntmps186
 go_wp2_with fail
 go_at_call 187
 rw [← hy];clear hy hv hB;refine (Gh id ad cap L y hv1 hl).mono ?_;rintro e w1 ⟨rfl, k1⟩;have B1 := AA B0 k1;have A1 := A0.below k1 (by omega);have S1 := A1.lt;have hv2 := hv1.below k1 hB1;have hB2 := hv2.lt AK (by omega);clear hv1 hB1 k1 A0 S0;obtain ⟨q, hq⟩ := AB (oI (CE id L));rw [← hq];replace hq : Hid _ := hq;obtain ⟨iss, hiss⟩ := AB ((CE id L).isSome);rw [← hiss];clear hiss;obtain ⟨bk, off, rfl, _⟩ := hv2 (by omega);obtain ⟨h, hh⟩ : ∃ h, L.getD k Pt.nil = h := ⟨_, rfl⟩;obtain ⟨c0, c1, c2, c3, c4, c5, c6, c7, c8, c9, c10⟩ : BL w1 bk (off + k * 11) h := by rw [← hh]; exact BV (hv2.at_ AK Pt.nil hk)
 replace hh : Hid _ := hh;obtain ⟨a0, a1⟩ := A1;obtain ⟨y3, hy3, kn⟩ := AI w1 (Obj.cells (pc h) 70);have P3 : Bo y3 w1.heap.size h := by rw [hy3]; exact Df w1 _ _
 have A3 := Ab.below ⟨a0, a1⟩ kn (by omega);have B3 := AA B1 kn;have hv3 := hv2.below kn hB2;have hB3 := hv3.lt AK (by omega);have S3 := P3.lt;go_upto_region 3 with fail
 rw [← hy3];clear hy3 a0 a1 c0 c1 c2 c3 c4 c5 c6 c7 c8 c9 c10 kn hv2 hB2 B1;generalize w1.heap.size = Q at S1 P3 S3 ⊢
 by_cases hr : CE id L = some k
 ·
  have hN : Hid (ρ = 1) := by unfold Hid; rw [hρ.out]; unfold Cm; rw [if_pos hr]
  have dk : ((k : Int) == q) = true := by rw [hq.out, hr]; simp [oI]
  clear hρ hq hr;go_wp2
  go_ret
  exact ⟨by rw [hN.out]; rfl, B3⟩
 have dk : ((k : Int) == q) = false := by
  rw [hq.out];cases ho : CE id L with
  | none => simp only [oI, beq_eq_false_iff_ne, ne_eq]; omega
  | some j =>
   simp only [oI, beq_eq_false_iff_ne, ne_eq];intro e;apply hr
   rw [ho, show j = k by omega]
 have hρ2 : Hid (ρ = if h.has && CD h.r h.c h.b h.p (Bm id L k).1 (Bm id L k).2.1 (Bm id L k).2.2.1 (Bm id L k).2.2.2 then 3 else 2) := by unfold Hid; rw [hρ.out]; unfold Cm; rw [if_neg hr, hh.out]
 clear hρ hq hr hh;go_upto_region 5 with fail
 cases hhas : h.has with
 | false =>
  have hN : Hid (ρ = 2) := by unfold Hid; rw [hρ2.out, hhas]; rfl
  refine AR (fun Y => Bw y3 Y) fun u0 hb0 => ?_
  refine tw 0 23 (.pointer (some (ja Q 1))) ?_;refine tw 1 24 (.bool false) ?_ (hy := by intro Y hSw; have X := (P3.below hSw (by omega)).all; go_simp);refine tw 2 25 (.bool false) ?_;refine ts 3 26 ?_;refine ts 4 27 ?_;refine ts 5 28 ?_;refine ts 6 29 ?_;refine ts 7 30 ?_;refine ts 8 31 ?_;refine tw 9 32 (.bool false) ?_;refine tw 10 22 (.bool false) ?_;refine AM ?_;go_wp2
  go_ret
  exact ⟨by rw [hN.out]; rfl, AA B3 hb0⟩
 | true =>
  obtain ⟨⟨v1, v2, v3, v4⟩, hov⟩ : ∃ v, Bm id L k = v := ⟨_, rfl⟩;have hρ3 : Hid (ρ = if CD h.r h.c h.b h.p v1 v2 v3 v4 then 3 else 2) := by unfold Hid; rw [hρ2.out, hhas, hov]; rfl
  replace hov : Hid _ := hov;obtain ⟨t, ht⟩ : ∃ t, CD h.r h.c h.b h.p v1 v2 v3 v4 = t := ⟨_, rfl⟩;replace ht : Hid _ := ht;clear hρ2;cases t
  ·
   refine AR (fun Y => Bw y3 Y) fun u0 hb0 => ?_
   refine tw 0 23 (.pointer (some (ja Q 1))) ?_;refine tw 1 24 (.bool true) ?_ (hy := by intro Y hSw; have X := (P3.below hSw (by omega)).all; go_simp);refine tw 2 25 (.bool true) ?_;refine tw 3 26 (.pointer (some (ja Q 2))) ?_;refine tw 4 27 (.agg #[ji h.r, ji h.c, ji h.b, ji h.p]) ?_ (hy := by intro Y hSw; have X := (P3.below hSw (by omega)).all; go_simp);refine tw 5 28 (.agg #[ji id, .slice (some (ja bk off)) L.length cap]) ?_ (hy := by intro Y hSw; obtain ⟨X0, X1⟩ := A3.below hSw (by omega); go_simp);refine tw 6 29 (ji (k : Int)) ?_;refine wpAnyH_all (rs := [7]) (by kernel_rfl) (by simp) ?_;intro i hi; obtain rfl : i = 7 := by simpa using hi
   refine wpOp_step rfl (fun K hK => ?_);rw [if_pos (by kernel_rfl)];go_simp
   go_at_call 161
   refine (G5 id (some (ja bk off)) cap L (k : Int) u0 (hv3.below hb0 hB3) hl).mono ?_;rintro e u1 ⟨rfl, kq⟩;have hb1 := AA hb0 kq;clear kq;rw [hov.out];refine hK _ _ ⟨hb1, ?_⟩;clear hK K hi;refine wpAnyH_all (rs := [8]) (by kernel_rfl) (by simp) ?_;intro i hi; obtain rfl : i = 8 := by simpa using hi
   refine wpOp_step rfl (fun K hK => ?_);rw [if_pos (by kernel_rfl)];go_simp
   go_at_call 203
   refine (FU h.r h.c h.b h.p v1 v2 v3 v4 u1).mono ?_;rintro e u2 ⟨rfl, kq⟩;have hb2 := AA hb1 kq;clear kq;rw [ht.out];refine hK _ _ ⟨hb2, ?_⟩;clear hK K hi;refine tw 9 32 (.bool false) ?_;refine tw 10 22 (.bool false) ?_;refine AM ?_;go_wp2
   go_ret
   exact ⟨by rw [hρ3.out, ht.out]; rfl, AA B3 hb2⟩
  refine AR (fun Y => Bw y3 Y) fun u0 hb0 => ?_
  refine tw 0 23 (.pointer (some (ja Q 1))) ?_;refine tw 1 24 (.bool true) ?_ (hy := by intro Y hSw; have X := (P3.below hSw (by omega)).all; go_simp);refine tw 2 25 (.bool true) ?_;refine tw 3 26 (.pointer (some (ja Q 2))) ?_;refine tw 4 27 (.agg #[ji h.r, ji h.c, ji h.b, ji h.p]) ?_ (hy := by intro Y hSw; have X := (P3.below hSw (by omega)).all; go_simp);refine tw 5 28 (.agg #[ji id, .slice (some (ja bk off)) L.length cap]) ?_ (hy := by intro Y hSw; obtain ⟨X0, X1⟩ := A3.below hSw (by omega); go_simp);refine tw 6 29 (ji (k : Int)) ?_;refine wpAnyH_all (rs := [7]) (by kernel_rfl) (by simp) ?_;intro i hi; obtain rfl : i = 7 := by simpa using hi
  refine wpOp_step rfl (fun K hK => ?_);rw [if_pos (by kernel_rfl)];go_simp
  go_at_call 161
  refine (G5 id (some (ja bk off)) cap L (k : Int) u0 (hv3.below hb0 hB3) hl).mono ?_;rintro e u1 ⟨rfl, kq⟩;have hb1 := AA hb0 kq;clear kq;rw [hov.out];refine hK _ _ ⟨hb1, ?_⟩;clear hK K hi;refine wpAnyH_all (rs := [8]) (by kernel_rfl) (by simp) ?_;intro i hi; obtain rfl : i = 8 := by simpa using hi
  refine wpOp_step rfl (fun K hK => ?_);rw [if_pos (by kernel_rfl)];go_simp
  go_at_call 203
  refine (FU h.r h.c h.b h.p v1 v2 v3 v4 u1).mono ?_;rintro e u2 ⟨rfl, kq⟩;have hb2 := AA hb1 kq;clear kq;rw [ht.out];refine hK _ _ ⟨hb2, ?_⟩;clear hK K hi;refine tw 9 32 (.bool true) ?_;refine tw 10 22 (.bool true) ?_;refine AM ?_;go_wp2
  go_ret
  exact ⟨by rw [hρ3.out, ht.out]; rfl, AA B3 hb2⟩
end Go.Proofs.YthgcbihhdbpbdaaGreat
