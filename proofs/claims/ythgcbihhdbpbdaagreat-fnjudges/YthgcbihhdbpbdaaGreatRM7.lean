import Derived.Test.YthgcbihhdbpbdaaGreatRKWBr6
namespace Go.Proofs.YthgcbihhdbpbdaaGreat
open Go.ChangeShapes Go.WideShapes Go.ChangeAt Go.RowKit
open Go.ChangeMaps (open_string shut_string)
set_option linter.unusedVariables false
set_option maxRecDepth 100000
set_option maxHeartbeats 32000000
set_option linter.unusedSimpArgs false
open Go.Proofs.Tryz
structure Ou where
 k : Int
 pt : Int
 r : Int
 c : Int
 b : Int
 p : Int
 h : Int
 on : Bool
def Ou.nil : Ou := ⟨0, 0, 0, 0, 0, 0, 0, false⟩
def Ad (x : Ou) : List Value := [ji x.k, ji x.pt, ji x.r, ji x.c, ji x.b, ji x.p, ji x.h, .bool x.on]
theorem Bt (x : Ou) : (Ad x).length = 8 := rfl
theorem Di (L : List Ou) : ∀ u ∈ Ac Ad L, u.oneCell' = true := by
 induction L with
 | nil => intro u h; cases h
 | cons x L ih =>
  intro u h;simp only [Ac, Ad, List.mem_append, List.mem_cons, List.not_mem_nil, or_false] at h;rcases h with (rfl | rfl | rfl | rfl | rfl | rfl | rfl | rfl) | h
  ·
   rfl
  ·
   rfl
  ·
   rfl
  ·
   rfl
  ·
   rfl
  ·
   rfl
  ·
   rfl
  ·
   rfl
  exact ih u h
structure C7 (w : World) (b o : Nat) (x : Ou) : Prop where
 c0 : w.cell? (ja b o) = some (ji x.k)
 c1 : w.cell? ⟨b, o + 1, none⟩ = some (ji x.pt)
 c2 : w.cell? ⟨b, o + 2, none⟩ = some (ji x.r)
 c3 : w.cell? ⟨b, o + 3, none⟩ = some (ji x.c)
 c4 : w.cell? ⟨b, o + 4, none⟩ = some (ji x.b)
 c5 : w.cell? ⟨b, o + 5, none⟩ = some (ji x.p)
 c6 : w.cell? ⟨b, o + 6, none⟩ = some (ji x.h)
 c7 : w.cell? ⟨b, o + 7, none⟩ = some (.bool x.on)
theorem C7.all {w : World} {b o : Nat} {x : Ou} (h : C7 w b o x) : w.cell? (ja b o) = some (ji x.k) ∧ w.cell? ⟨b, o + 1, none⟩ = some (ji x.pt) ∧ w.cell? ⟨b, o + 2, none⟩ = some (ji x.r) ∧ w.cell? ⟨b, o + 3, none⟩ = some (ji x.c) ∧ w.cell? ⟨b, o + 4, none⟩ = some (ji x.b) ∧ w.cell? ⟨b, o + 5, none⟩ = some (ji x.p) ∧ w.cell? ⟨b, o + 6, none⟩ = some (ji x.h) ∧ w.cell? ⟨b, o + 7, none⟩ = some (.bool x.on) := ⟨h.c0, h.c1, h.c2, h.c3, h.c4, h.c5, h.c6, h.c7⟩
theorem FN {w : World} {b o : Nat} {x : Ou} (h : ∀ j v, (Ad x)[j]? = some v → w.cell? ⟨b, o + j, none⟩ = some v) : C7 w b o x := ⟨h 0 _ rfl, h 1 _ rfl, h 2 _ rfl, h 3 _ rfl, h 4 _ rfl, h 5 _ rfl, h 6 _ rfl, h 7 _ rfl⟩
theorem ES : (prog.info? 77).map (fun i => (i.zero, i.size, i.bytes)) = some (some (.agg #[ji 0, ji 0, ji 0, ji 0, ji 0, ji 0, ji 0, .bool false]), 8, 64) := by kernel_rfl
theorem AH.oneO (w : World) (t : TypeId) (x : Ou) : AH Ad (w.alloc (Obj.cells #[ji x.k, ji x.pt, ji x.r, ji x.c, ji x.b, ji x.p, ji x.h, .bool x.on] t)) (some (ja w.heap.size 0)) [x] := by
 intro _;refine ⟨w.heap.size, 0, rfl, fun j v hv => ?_⟩;have hj : j < 8 := by
  have := (List.getElem?_eq_some_iff.1 hv).1;simpa [Ac, Ad] using this
 rcases (by omega : j = 0 ∨ j = 1 ∨ j = 2 ∨ j = 3 ∨ j = 4 ∨ j = 5 ∨ j = 6 ∨ j = 7) with rfl | rfl | rfl | rfl | rfl | rfl | rfl | rfl
 ·
  cases hv; simp [go_sem]
 ·
  cases hv; simp [go_sem]
 ·
  cases hv; simp [go_sem]
 ·
  cases hv; simp [go_sem]
 ·
  cases hv; simp [go_sem]
 ·
  cases hv; simp [go_sem]
 ·
  cases hv; simp [go_sem]
 cases hv; simp [go_sem]
def CZ (i : Nat) (on : Bool) : Ou := ⟨2, i, 0, 0, 0, 0, 0, on⟩
def CM (L M : List Pt) : Nat → List Ou
 | 0 => []
 | n + 1 => CM L M n ++ if (M.getD n Pt.nil).op = (L.getD n Pt.nil).op then [] else [CZ n (M.getD n Pt.nil).op]
def Fy (id : Int) (M : List Pt) (i : Nat) : Ou := ⟨1, i, (Bm id M i).1, (Bm id M i).2.1, (Bm id M i).2.2.1, (Bm id M i).2.2.2, EF id M, false⟩
def CF (id : Int) (M : List Pt) : Nat → List Ou
 | 0 => []
 | n + 1 => CF id M n ++ if (M.getD n Pt.nil).ro = 2 then [Fy id M n] else []
theorem FJ (L M : List Pt) (n : Nat) : (CM L M n).length ≤ n := by
 induction n with
 | zero => simp [CM]
 | succ n ih => simp only [CM, List.length_append]; split <;> simp <;> omega
theorem Fm (id : Int) (M : List Pt) (n : Nat) : (CF id M n).length ≤ n := by
 induction n with
 | zero => simp [CF]
 | succ n ih => simp only [CF, List.length_append]; split <;> simp <;> omega
theorem Hf {L M : List Pt} {n : Nat} {h g : Pt} (hh : M.getD n Pt.nil = h) (hg : L.getD n Pt.nil = g) (e : h.op = g.op) : CM L M (n + 1) = CM L M n := by
 simp only [CM, hh, hg]; rw [if_pos e, List.append_nil]
theorem Hq {L M : List Pt} {n : Nat} {h g : Pt} (hh : M.getD n Pt.nil = h) (hg : L.getD n Pt.nil = g) (e : h.op ≠ g.op) : CM L M (n + 1) = CM L M n ++ [CZ n h.op] := by
 simp only [CM, hh, hg]; rw [if_neg e]
theorem Hk {id : Int} {M : List Pt} {n : Nat} {h : Pt} (hh : M.getD n Pt.nil = h) (e : h.ro = 2) : CF id M (n + 1) = CF id M n ++ [Fy id M n] := by
 simp only [CF, hh]; rw [if_pos e]
theorem Hy {id : Int} {M : List Pt} {n : Nat} {h : Pt} (hh : M.getD n Pt.nil = h) (e : h.ro ≠ 2) : CF id M (n + 1) = CF id M n := by
 simp only [CF, hh]; rw [if_neg e, List.append_nil]
theorem KJ (id id' : Int) (ad ad' : Option Addr) (cap cap' : Nat) (L M : List Pt) (w : World) (hv : AH AJ w ad L) (hv' : AH AJ w ad' M) (hLM : L.length = M.length) (hl : M.length ≤ 4) :
  Calls prog 137 #[.agg #[ji id, .slice ad L.length cap], .agg #[ji id', .slice ad' M.length cap']] w fun e w' => ∃ adk capk, e = .returned (.slice adk (CM L M M.length).length capk) ∧ AD Ad 8 77 w.heap.size w' (.slice adk (CM L M M.length).length capk) (CM L M M.length) ∧ Bw w w' := by
 obtain ⟨i0, hi, hz0, hz1, hz2⟩ := info_parts ES;have hB := hv.lt AK (by omega);have hB' := hv'.lt AK (by omega);replace hLM : Hid _ := hLM;obtain ⟨y, hy⟩ := AB ((w.alloc (Obj.cells #[ji id, .slice ad L.length cap] 42)).alloc (Obj.cells #[ji id', .slice ad' M.length cap'] 42));have B0 : Bw w y := by rw [hy]; exact ((Below.refl _ _).alloc (Nat.le_refl _) _).alloc (by simp) _
 have A0 : Ab y w.heap.size id (.slice ad L.length cap) := by rw [hy]; constructor <;> simp [go_sem]
 have A1 : Ab y (w.heap.size + 1) id' (.slice ad' M.length cap') := by rw [hy]; constructor <;> simp [go_sem]
 have S0 := A1.lt;have hv1 := hv.below B0 hB;have hv1' := hv'.below B0 hB';have hB1 := hv1.lt AK (by omega);have hB1' := hv1'.lt AK (by omega);clear hv hv' hB hB';go_enter func137, ntmps137
 go_upto_region 2 with fail
 rw [← hy];clear hy;obtain ⟨a0, a1⟩ := A1;have A1 : Ab y (w.heap.size + 1) id' (.slice ad' M.length cap') := ⟨a0, a1⟩;go_wp2
 clear a0 a1;go_loopw [5, 11] (fun v i wr => ∃ k : Nat, k ≤ M.length ∧ i = .int .i64 (k : Int) ∧ AD Ad 8 77 y.heap.size wr v (CM L M k) ∧ Below y.heap.size y wr) (fun _ i _ => M.length - (intOf i).toNat)
 case atStart => exact ⟨0, Nat.zero_le _, rfl, AD.nil, Below.refl _ _⟩
 case round =>
  obtain ⟨k, hk, rfl, O, K⟩ := hrel;obtain ⟨adk, capk, rfl⟩ := O.open_;have A2 := A0.below K (by omega);obtain ⟨b0, b1⟩ := A1.below K S0;by_cases hlt : k < M.length
  ·
   have hltL : k < L.length := by rw [hLM.out]; exact hlt
   have hv2 := hv1.below K hB1;have hv2' := hv1'.below K hB1';obtain ⟨bk', off', rfl, _⟩ := hv2' (by omega);obtain ⟨bk, off, rfl, _⟩ := hv2 (by omega);obtain ⟨h, hh⟩ : ∃ h, M.getD k Pt.nil = h := ⟨_, rfl⟩;obtain ⟨g, hg⟩ : ∃ g, L.getD k Pt.nil = g := ⟨_, rfl⟩;obtain ⟨c0, c1, c2, c3, c4, c5, c6, c7, c8, c9, c10⟩ : BL wr bk' (off' + k * 11) h := by rw [← hh]; exact BV (hv2'.at_ AK Pt.nil hlt)
   replace hh : Hid _ := hh;have gl := FJ L M k;obtain ⟨G, hG⟩ : ∃ G, CM L M k = G := ⟨_, rfl⟩;rw [hG] at O gl ⊢;replace hG : Hid _ := hG;obtain ⟨y3, hy3, kn⟩ := AI wr (Obj.cells (pc h) 70);have P3 : Bo y3 wr.heap.size h := by rw [hy3]; exact Df wr _ _
   have A3 := A2.below kn A2.lt;have O3 := O.later kn;have K3 := AA K kn;have hv3 := hv2.below kn (hv2.lt AK (by omega));have hgc : ∀ Y, Bw y3 Y → BL Y bk (off + k * 11) g := fun Y hY => by rw [← hg]; exact BV ((hv3.below hY (hv3.lt AK (by omega))).at_ AK Pt.nil hltL)
   replace hg : Hid _ := hg;have S3 := P3.lt;have S4 := K.size;go_upto_region 5 with fail
   rw [← hy3];clear hy3 b0 b1 c0 c1 c2 c3 c4 c5 c6 c7 c8 c9 c10 kn O hv2 hv2' A2 hv3;generalize wr.heap.size = Q at P3 S3 S4 ⊢
   by_cases ho : h.op = g.op
   ·
    have dq : (h.op != g.op) = false := by rw [ho]; simp
    have hN : Hid (CM L M (k + 1) = G) := by unfold Hid; rw [Hf hh.out hg.out ho, hG.out]
    replace ho : Hid _ := ho;refine AR (fun Y => Bw y3 Y) fun u0 hb0 => ?_
    refine tw 0 16 (.pointer (some (ja Q 10))) ?_;refine tw 1 17 (.bool h.op) ?_ (hy := by intro Y hSw; have X := (P3.below hSw (by omega)).all; go_simp);refine tw 2 18 (.pointer (some (ja w.heap.size 1))) ?_;refine tw 3 19 (.slice (some (ja bk off)) L.length cap) ?_ (hy := by intro Y hSw; obtain ⟨X0, X1⟩ := A3.below hSw (by omega); go_simp);refine tw 4 20 (ji (k : Int)) ?_;refine tw 5 21 (.pointer (some ⟨bk, off + k * 11, none⟩)) ?_ (hy := by intro Y hSw; go_simp; try omega);refine tw 6 22 (.pointer (some ⟨bk, off + k * 11 + 10, none⟩)) ?_;refine tw 7 23 (.bool g.op) ?_ (hy := by intro Y hSw; have X := (hgc Y hSw).all; go_simp);refine tw 8 24 (.bool false) ?_ (hy := by intro Y hSw; go_simp; exact ho.out);refine AM ?_;go_wp2
    go_roundw
    case rel => exact ⟨k + 1, by omega, by go_num, by rw [hN.out]; exact O3.later hb0, AA K3 hb0⟩
    case measure => simp [intOf]; omega
   have dq : (h.op != g.op) = true := by simpa using ho
   have hN : Hid (CM L M (k + 1) = G ++ [CZ k h.op]) := by unfold Hid; rw [Hq hh.out hg.out ho, hG.out]
   replace ho : Hid _ := ho;refine AR (fun Y => Bw y3 Y) fun u0 hb0 => ?_
   refine tw 0 16 (.pointer (some (ja Q 10))) ?_;refine tw 1 17 (.bool h.op) ?_ (hy := by intro Y hSw; have X := (P3.below hSw (by omega)).all; go_simp);refine tw 2 18 (.pointer (some (ja w.heap.size 1))) ?_;refine tw 3 19 (.slice (some (ja bk off)) L.length cap) ?_ (hy := by intro Y hSw; obtain ⟨X0, X1⟩ := A3.below hSw (by omega); go_simp);refine tw 4 20 (ji (k : Int)) ?_;refine tw 5 21 (.pointer (some ⟨bk, off + k * 11, none⟩)) ?_ (hy := by intro Y hSw; go_simp; try omega);refine tw 6 22 (.pointer (some ⟨bk, off + k * 11 + 10, none⟩)) ?_;refine tw 7 23 (.bool g.op) ?_ (hy := by intro Y hSw; have X := (hgc Y hSw).all; go_simp);refine tw 8 24 (.bool true) ?_ (hy := by intro Y hSw; go_simp; exact ho.out);refine AM ?_;obtain ⟨c0, c1, c2, c3, c4, c5, c6, c7, c8, c9, c10⟩ := P3.below hb0 (by omega);have K4 := AA K3 hb0;have V1 := AH.oneO u0 77 (CZ k h.op);have O2 : AD Ad 8 77 y.heap.size (u0.alloc (Obj.cells #[ji (CZ k h.op).k, ji (CZ k h.op).pt, ji (CZ k h.op).r, ji (CZ k h.op).c, ji (CZ k h.op).b, ji (CZ k h.op).p, ji (CZ k h.op).h, .bool (CZ k h.op).on] 77)) (.slice adk G.length capk) G := (O3.later hb0).later (Al _);unfold CZ at V1 O2;dsimp only at V1 O2;have S5 := K4.size;go_wp2_with (first | (at_builtin; refine DX Bt Di rfl _ _ 32 rfl y.heap.size 77 i0 (.agg #[ji 0, ji 0, ji 0, ji 0, ji 0, ji 0, ji 0, .bool false]) 64 underlying32 hi hz0 hz1 hz2 rfl (by decide) (by decide) (.slice adk G.length capk) G rfl O2 (some (ja u0.heap.size 0)) 1 [(⟨2, (k : Int), 0, 0, 0, 0, 0, h.op⟩ : Ou)] rfl (fun e => by cases e) V1 ?z0 ?z1 ?_) | go_in)
   case z0 => simp; omega
   case z1 => simp; omega
   intro vZ wZ hownZ hgrowZ _;have ho2 : ∀ g_, (Value.slice adk G.length capk).ownBlock = some g_ → y.heap.size ≤ g_ := fun g_ e => (O2.lt g_ e).1
   have KZ : Bw y wZ := (K4.alloc S5 _).grown hgrowZ (by simp; omega) ho2;clear hgrowZ V1 O2 ho2 O3 c0 c1 c2 c3 c4 c5 c6 c7 c8 c9 c10;go_wp2
   go_roundw
   case rel => exact ⟨k + 1, by omega, by go_num, by rw [hN.out]; exact hownZ, KZ⟩
   case measure => simp [intOf]; omega
  obtain rfl : k = M.length := by omega
  have BZ := AA B0 K;have OZ := O.base B0.size;clear b0 b1;go_wp2
  go_ret
  exact ⟨_, _, rfl, OZ, BZ⟩
theorem Ko (id : Int) (ad : Option Addr) (cap : Nat) (L : List Pt) (w : World) (hv : AH AJ w ad L) (hl : L.length ≤ 4) :
  Calls prog 138 #[.agg #[ji id, .slice ad L.length cap]] w fun e w' => ∃ adk capk, e = .returned (.slice adk (CF id L L.length).length capk) ∧ AD Ad 8 77 w.heap.size w' (.slice adk (CF id L L.length).length capk) (CF id L L.length) ∧ Bw w w' := by
 obtain ⟨i0, hi, hz0, hz1, hz2⟩ := info_parts ES;have hB := hv.lt AK (by omega);obtain ⟨y, hy, B0⟩ := AI w (Obj.cells #[ji id, .slice ad L.length cap] 42);have A0 : Ab y w.heap.size id (.slice ad L.length cap) := by rw [hy]; exact Ab.new w _ _ _
 have S0 := A0.lt;have hv1 := hv.below B0 hB;have hB1 := hv1.lt AK (by omega);clear hv hB;go_enter func138, ntmps138
 go_upto_region 2 with fail
 rw [← hy];clear hy;obtain ⟨a0, a1⟩ := A0;have A0 : Ab y w.heap.size id (.slice ad L.length cap) := ⟨a0, a1⟩;go_wp2
 clear a0 a1;go_loopw [3, 9] (fun v i wr => ∃ k : Nat, k ≤ L.length ∧ i = .int .i64 (k : Int) ∧ AD Ad 8 77 y.heap.size wr v (CF id L k) ∧ Below y.heap.size y wr) (fun _ i _ => L.length - (intOf i).toNat)
 case atStart => exact ⟨0, Nat.zero_le _, rfl, AD.nil, Below.refl _ _⟩
 case round =>
  obtain ⟨k, hk, rfl, O, K⟩ := hrel;obtain ⟨adk, capk, rfl⟩ := O.open_;have A2 := A0.below K S0;have K2 := A2;obtain ⟨a0, a1⟩ := K2;by_cases hlt : k < L.length
  ·
   have hv2 := hv1.below K hB1;obtain ⟨bk, off, rfl, _⟩ := hv2 (by omega);obtain ⟨h, hh⟩ : ∃ h, L.getD k Pt.nil = h := ⟨_, rfl⟩;obtain ⟨c0, c1, c2, c3, c4, c5, c6, c7, c8, c9, c10⟩ : BL wr bk (off + k * 11) h := by rw [← hh]; exact BV (hv2.at_ AK Pt.nil hlt)
   replace hh : Hid _ := hh;have gl := Fm id L k;obtain ⟨G, hG⟩ : ∃ G, CF id L k = G := ⟨_, rfl⟩;rw [hG] at O gl ⊢;replace hG : Hid _ := hG;obtain ⟨y3, hy3, kn⟩ := AI wr (Obj.cells (pc h) 70);have P3 : Bo y3 wr.heap.size h := by rw [hy3]; exact Df wr _ _
   have A3 := A2.below kn A2.lt;have O3 := O.later kn;have K3 := AA K kn;have hv3 := hv2.below kn (hv2.lt AK (by omega));have hB3 := hv3.lt AK (by omega);have S3 := P3.lt;have S4 := K.size;go_upto_region 5 with fail
   rw [← hy3];clear hy3 a0 a1 c0 c1 c2 c3 c4 c5 c6 c7 c8 c9 c10 kn O hv2 A2;generalize wr.heap.size = Q at P3 S3 S4 ⊢
   replace P3 := P3.all;by_cases ho : h.ro = 2
   ·
    have dq : (h.ro == 2) = true := by simpa using ho
    obtain ⟨⟨v1, v2, v3, v4⟩, hov⟩ : ∃ v, Bm id L k = v := ⟨_, rfl⟩;obtain ⟨hq, hhq⟩ : ∃ v, EF id L = v := ⟨_, rfl⟩;have hN : Hid (CF id L (k + 1) = G ++ [(⟨1, (k : Int), v1, v2, v3, v4, hq, false⟩ : Ou)]) := by unfold Hid; rw [Hk hh.out ho, hG.out]; unfold Fy; rw [hov, hhq]
    replace ho : Hid _ := ho;replace hov : Hid _ := hov;replace hhq : Hid _ := hhq;have hiT := hi;go_upto_region 6 with fail
    clear P3;refine wp_region_held (S := fun Y => Bw y Y) (by kernel_rfl) ?_;change wpAnyH _ _ _ _ _ _ _ _ (World.drew _);have hb0 : Bw y y3.drew := K3.drew;have ha0 : Bw y3 y3.drew := (Below.refl _ _).drew;obtain ⟨u0, hy0⟩ := AB y3.drew;rw [← hy0] at hb0 ha0 ⊢;clear hy0;refine tw 0 17 (.slice adk G.length capk) ?_;refine tw 1 18 (ji (k : Int)) ?_;refine tw 2 19 (.agg #[ji id, .slice (some (ja bk off)) L.length cap]) ?_ (hy := by intro Y hSw; obtain ⟨X0, X1⟩ := A0.below hSw A0.lt; go_simp);refine tw 3 20 (ji (k : Int)) ?_;refine tw 5 22 (.agg #[ji id, .slice (some (ja bk off)) L.length cap]) ?_ (hy := by intro Y hSw; obtain ⟨X0, X1⟩ := A0.below hSw A0.lt; go_simp);refine wpAnyH_all (rs := [4]) (by kernel_rfl) (by simp) ?_;intro i hi; obtain rfl : i = 4 := by simpa using hi
    refine wpOp_step rfl (fun K hK => ?_);rw [if_pos (by kernel_rfl)];go_simp
    go_at_call 161
    refine (G5 id (some (ja bk off)) cap L (k : Int) u0 (hv1.below hb0 hB1) (by omega)).mono ?_;rintro e u1 ⟨rfl, kq⟩;have hb1 := AA hb0 kq;have ha1 := AA ha0 kq;clear kq;rw [hov.out];refine hK _ _ ⟨hb1, ?_⟩;clear hK K hi;refine wpAnyH_all (rs := [6]) (by kernel_rfl) (by simp) ?_;intro i hi; obtain rfl : i = 6 := by simpa using hi
    refine wpOp_step rfl (fun K hK => ?_);rw [if_pos (by kernel_rfl)];go_simp
    go_at_call 162
    refine (LK id (some (ja bk off)) cap L u1 (hv1.below hb1 hB1) (by omega)).mono ?_;rintro e u2 ⟨rfl, kq⟩;have hb2 := AA hb1 kq;have ha2 := AA ha1 kq;clear kq;rw [hhq.out];refine hK _ _ ⟨hb2, ?_⟩;clear hK K hi;refine tw 7 24 (.agg #[ji 1, ji (k : Int), ji v1, ji v2, ji v3, ji v4, ji hq, .bool false]) ?_;refine wpAnyH_all (rs := [8]) (by kernel_rfl) (by simp) ?_;intro i hi; obtain rfl : i = 8 := by simpa using hi
    refine wpOp_step rfl (fun K_ hK_ => ?_);rw [if_pos (by kernel_rfl)];go_simp
    obtain ⟨u3, hu3, kq⟩ := AI u2 (Obj.cells #[ji 1, ji (k : Int), ji v1, ji v2, ji v3, ji v4, ji hq, .bool false] 77);have V1 : AH Ad u3 (some (ja u2.heap.size 0)) [(⟨1, (k : Int), v1, v2, v3, v4, hq, false⟩ : Ou)] := by rw [hu3]; exact AH.oneO u2 77 ⟨1, (k : Int), v1, v2, v3, v4, hq, false⟩
    have hb3 := AA hb2 kq;have ha3 := AA ha2 kq;clear kq;rw [← hu3];clear hu3;generalize u2.heap.size = E at V1 ⊢
    refine hK_ _ _ ⟨hb3, ?_⟩;clear hK_ K_ hi;have O2 : AD Ad 8 77 y.heap.size u3 (.slice adk G.length capk) G := O3.later ha3;have S5 : y.heap.size ≤ u3.heap.size := hb3.size;refine wpAnyH_all (rs := [9]) (by kernel_rfl) (by simp) ?_;intro i hi; obtain rfl : i = 9 := by simpa using hi
    refine wpOp_step rfl (fun K_ hK_ => ?_);rw [if_pos (by kernel_rfl)];refine CH Bt Di 26 _ _ 32 rfl rfl y.heap.size 77 i0 (.agg #[ji 0, ji 0, ji 0, ji 0, ji 0, ji 0, ji 0, .bool false]) 64 underlying32 hiT hz0 hz1 hz2 rfl (by decide) (by decide) (.slice adk G.length capk) G rfl O2 (some (ja E 0)) 1 [(⟨1, (k : Int), v1, v2, v3, v4, hq, false⟩ : Ou)] rfl (fun e => by cases e) V1 (by simp; omega) S5 ?_;intro vZ wZ hownZ hgrowZ _;have KZ : Bw y wZ := hb3.grown hgrowZ S5 (fun g_ e => (O2.lt g_ e).1);clear hgrowZ V1 O2;simp only [List.set_cons_zero, List.set_cons_succ];refine hK_ _ _ ⟨KZ, ?_⟩;clear hK_ K_ hi;refine tw 10 3 vZ ?_;refine AM ?_;clear O3 ha0 ha1 ha2 ha3 hb0 hb1 hb2 hb3;go_wp2
    go_roundw
    case rel => exact ⟨k + 1, by omega, by go_num, by rw [hN.out]; exact hownZ, KZ⟩
    case measure => simp [intOf]; omega
   have dq : (h.ro == 2) = false := by simpa using ho
   have hN : Hid (CF id L (k + 1) = G) := by unfold Hid; rw [Hy hh.out ho, hG.out]
   replace ho : Hid _ := ho;go_wp2
   go_roundw
   case rel => exact ⟨k + 1, by omega, by go_num, by rw [hN.out]; exact O3, K3⟩
   case measure => simp [intOf]; omega
  obtain rfl : k = L.length := by omega
  have BZ := AA B0 K;have OZ := O.base B0.size;go_wp2
  go_ret
  exact ⟨_, _, rfl, OZ, BZ⟩
end Go.Proofs.YthgcbihhdbpbdaaGreat
