/- impl.BpduBytes, walked. -/
import Derived.Test.YtlgcjhebbmejaaaRows
import Derived.WalkKit
import Derived.ProofKit
import Derived.OpenShut
import Derived.ShutString
import Derived.ChangeOld
import Derived.Below
import Derived.Deep.QuietTactic
import Derived.BigQuiet
import Derived.WalkSmall
import Derived.Laws.OwnMore
import Derived.WalkSpells
import Derived.WalkLawsBesides
import Derived.Deep.Cut
import Derived.Test.YtlgcjhebbmejaaaBp3
import Derived.Test.YtlgcjhebbmejaaaBOwn19
namespace Go.Proofs.Ytlgcjhebbmejaaa
open Go.ChangeShapes Go.WideShapes Go.ChangeAt Go.RowKit
open Go.ChangeMaps (open_string shut_string)
set_option linter.unusedVariables false
set_option maxRecDepth 100000

/-- The bytes of a claim on the wire. -/
def byW (x : Bp) : List Int := [0, 0, 2, 2] ++ [flZ x] ++ [128, 0, 0, 0, 0, 0, 0, x.r] ++ hi4 (20000 * x.c) ++ [128, 0, 0, 0, 0, 0, 0, x.b] ++ [128, x.p + 1] ++ [x.h, 0] ++ [8, 0, 2, 0, 15, 0, 0]
def byB (x : Bp) : List Int := if bpOk x = true then byW x else []
theorem byW_len (x : Bp) : (byW x).length = 36 := rfl
theorem byB_len (x : Bp) : (byB x).length ≤ 36 := by unfold byB; split <;> simp [byW_len]
theorem vOk_bd {r c b p : Int} (h : vOk r c b p = true) : 1 ≤ r ∧ r ≤ 9 ∧ 0 ≤ c ∧ c ≤ 20 ∧ 1 ≤ b ∧ b ≤ 9 ∧ 0 ≤ p ∧ p ≤ 3 := by
  have h := of_decide_eq_true h
  omega
theorem bpOk_bd {x : Bp} (h : bpOk x = true) : (0 ≤ x.ro ∧ x.ro ≤ 3) ∧ vOk x.r x.c x.b x.p = true ∧ 0 ≤ x.h ∧ x.h ≤ 8 := by
  unfold bpOk at h
  rw [Bool.and_eq_true, Bool.and_eq_true] at h
  exact ⟨of_decide_eq_true h.1, h.2.1, of_decide_eq_true h.2.2⟩
structure BS (w0 : World) (g q : Nat) (x : Bp) (Ps : List Int) (w : World) : Prop where
  bp : BpAt w w0.heap.size x
  cell : w.cell? ⟨q, 0, none⟩ = some (.slice (some ⟨g, 0, none⟩) 36 36)
  row : ∃ R, RowA w g (by8 Ps ++ R) ∧ Ps.length + R.length = 36
  bel : Below w0.heap.size w0 w
  o1 : w0.heap.size < g
  o2 : g < q
  o3 : q < w.heap.size
theorem BS.later {w0 w w' : World} {g q : Nat} {x : Bp} {Ps : List Int} (h : BS w0 g q x Ps w) (k : Below w.heap.size w w') : BS w0 g q x Ps w' := by
  obtain ⟨b, c, ⟨R, r, l⟩, e, o1, o2, o3⟩ := h
  exact ⟨b.below k (by omega), (k.cell (p := ⟨q, 0, none⟩) o3).trans c, ⟨R, r.keep (k.block g (by omega)), l⟩, e.trans (k.mono e.size), o1, o2, Nat.lt_of_lt_of_le o3 k.size⟩
theorem BS.put {w0 w w' : World} {g q m : Nat} {x : Bp} {Ps Ls : List Int} {R : List Value} (h : BS w0 g q x Ps w) (r : RowA w' g (by8 (Ps ++ Ls) ++ R.drop m)) (hl : Ps.length + R.length = 36) (hm : Ls.length = m) (hle : m ≤ R.length) (k : w.grownBy w' (some g)) : BS w0 g q x (Ps ++ Ls) w' := by
  obtain ⟨b, c, _, e, o1, o2, o3⟩ := h
  exact ⟨b.keep (k.block _ (by omega) (fun e => by have := Option.some.inj e; omega)), (World.cell?_of_block (a := ⟨q, 0, none⟩) (k.block q o3 (fun e => by have := Option.some.inj e; omega))).trans c, ⟨_, r, by rw [List.length_append, List.length_drop]; omega⟩, e.grown k e.size (fun g' e' => by have := Option.some.inj e'; omega), o1, o2, Nat.lt_of_lt_of_le o3 k.size⟩
theorem BS.own {w0 w : World} {g q : Nat} {x : Bp} {Ps : List Int} (h : BS w0 g q x Ps w) (hl : Ps.length = 36) : FOwn bEnc 1 5 w0.heap.size w (.slice (some ⟨g, 0, none⟩) Ps.length 36) Ps := by
  obtain ⟨_, _, ⟨R, r, l⟩, _, o1, _, _⟩ := h
  obtain rfl : R = [] := List.eq_nil_of_length_eq_zero (by omega)
  rw [List.append_nil] at r
  refine bOf ⟨by simp, .inr ⟨g, 36, _, rfl, by omega, r, by omega, by unfold maxLen; omega, by simp [by8_len, hl], ?_⟩⟩
  rw [hl]
  exact List.take_of_length_le (by simp [by8_len, hl])
set_option maxHeartbeats 16000000 in
theorem byI (x : Bp) (w : World) : Calls Try.prog 11 #[.agg #[.bool x.ch, .bool x.ak, .bool x.ag, .bool x.le, .bool x.op, .int .i64 x.ro, .int .i64 x.r, .int .i64 x.c, .int .i64 x.b, .int .i64 x.p, .int .i64 x.h]] w fun e w' => ∃ ad cap, e = .returned (.slice ad (byB x).length cap) ∧ FOwn bEnc 1 5 w.heap.size w' (.slice ad (byB x).length cap) (byB x) ∧ Below w.heap.size w w' := by
  cases hok : bpOk x with
  | false =>
    have e : byB x = [] := by unfold byB; rw [hok]; rfl
    rw [e]
    clear e
    obtain ⟨y, hy⟩ : ∃ y, y = w.alloc (Obj.cells #[.bool x.ch, .bool x.ak, .bool x.ag, .bool x.le, .bool x.op, .int .i64 x.ro, .int .i64 x.r, .int .i64 x.c, .int .i64 x.b, .int .i64 x.p, .int .i64 x.h] 27) := ⟨_, rfl⟩
    have B0 : Below w.heap.size w y := by rw [hy]; exact below_new _
    have A0 : BpAt y w.heap.size x := by rw [hy]; exact BpAt.new w _ x
    have S0 := A0.lt
    go_enter Try.func11, Try.ntmps11
    go_wp2_with fail
    go_at_call 21
    rw [← hy]
    clear hy
    refine (bpOkI x y).mono ?_
    rintro e y1 ⟨rfl, k1⟩
    rw [hok]
    have B1 := B0.trans (k1.mono B0.size)
    have A1 := A0.below k1 S0
    have S1 := A1.lt
    clear A0 k1 B0 S0
    go_wp2
    go_ret
    exact ⟨none, 0, rfl, FOwn.nil, B1⟩
  | true =>
    have e : byB x = byW x := by unfold byB; rw [hok]; rfl
    rw [e]
    clear e
    obtain ⟨hro, hvk, hh⟩ := bpOk_bd hok
    obtain ⟨hr0, hr1, hc0, hc1, hb0, hb1, hp0, hp1⟩ := vOk_bd hvk
    obtain ⟨hh0, hh1⟩ := hh
    obtain ⟨hf0, hf1⟩ := flZ_le x
    obtain ⟨y, hy⟩ : ∃ y, y = w.alloc (Obj.cells #[.bool x.ch, .bool x.ak, .bool x.ag, .bool x.le, .bool x.op, .int .i64 x.ro, .int .i64 x.r, .int .i64 x.c, .int .i64 x.b, .int .i64 x.p, .int .i64 x.h] 27) := ⟨_, rfl⟩
    have B0 : Below w.heap.size w y := by rw [hy]; exact below_new _
    have A0 : BpAt y w.heap.size x := by rw [hy]; exact BpAt.new w _ x
    have S0 := A0.lt
    go_enter Try.func11, Try.ntmps11
    go_wp2_with fail
    go_at_call 21
    rw [← hy]
    clear hy
    refine (bpOkI x y).mono ?_
    rintro e y1 ⟨rfl, k1⟩
    rw [hok]
    have B1 := B0.trans (k1.mono B0.size)
    have A1 := A0.below k1 S0
    have S1 := A1.lt
    clear A0 k1 B0 S0
    clear hok hvk
    obtain ⟨i0, hi, hz0, hz1, hz2⟩ := info_parts bInfo
    go_wp2_with (first | (refine wpList_make_full _ rfl _ _ 22 rfl y1.heap.size 5 i0 (.int .u8 0) 1 Try.underlying22 hi hz0 hz1 .i64 .i64 _ _ 36 rfl rfl rfl rfl ?c1 ?c2 ?c3 ?_))
    case c1 => rw [hz2]; omega
    case c2 => unfold maxLen; omega
    case c3 => exact Nat.le_refl _
    intro y2 hown hgrow
    obtain ⟨R, hR, hRl⟩ : ∃ R : List Value, RowA y2 y1.heap.size (by8 [] ++ R) ∧ R.length = 36 := by
      rcases hown.2 with ⟨_, h0⟩ | ⟨g, cap, cur, e, _, hh, h1, _, h2, _⟩
      · omega
      · simp only [Value.slice.injEq, Option.some.injEq, Addr.mk.injEq] at e
        obtain ⟨⟨rfl, _⟩, _, rfl⟩ := e
        exact ⟨cur.toList, by simpa [RowA, by8] using hh, by simpa using h2⟩
    have k2 : Below y1.heap.size y1 y2 := (Below.refl _ _).grown hgrow (Nat.le_refl _) (fun k e => by cases e)
    obtain ⟨y3, hy3⟩ : ∃ y3, y3 = y2.alloc (Obj.cells #[.slice (some ⟨y1.heap.size, 0, none⟩) 36 36] 22) := ⟨_, rfl⟩
    have k3 : Below y2.heap.size y2 y3 := by rw [hy3]; exact below_new _
    have c3 : y3.cell? ⟨y2.heap.size, 0, none⟩ = some (.slice (some ⟨y1.heap.size, 0, none⟩) 36 36) := by rw [hy3]; simp [go_sem]
    have S : BS w y1.heap.size y2.heap.size x [] y3 := by
      have := hR.lt
      have hq := World.block_lt_of_cell? y3 _ c3
      have hs2 := k2.size
      exact ⟨(A1.below k2 S1).below k3 (by omega), c3, ⟨R, hR.keep (k3.block _ (by omega)), by simpa using hRl⟩, (B1.trans (k2.mono B1.size)).trans (k3.mono (by have := B1.size; omega)), by omega, by omega, hq⟩
    clear hR hRl R hown hgrow k2 k3 A1 B1 c3 i0 hi hz0 hz1 hz2
    go_upto_region 4 with fail
    rw [← hy3]
    clear hy3
    generalize y1.heap.size = g at S ⊢
    generalize y2.heap.size = q at S ⊢
    clear S1
    go_wp2_with fail
    go_at_call 35
    obtain ⟨z0, hz0⟩ : ∃ z, z = y3.alloc (Obj.cells #[.int .u8 0, .int .u8 0, .int .u8 2, .int .u8 2] 5) := ⟨_, rfl⟩
    have hs0 : ∀ j v, (by8 [0, 0, 2, 2])[j]? = some v → z0.cell? ⟨y3.heap.size, j, none⟩ = some v := by rw [hz0]; exact lit_cell y3 [0, 0, 2, 2]
    have T0 : BS w g q x ([]) z0 := S.later (by rw [hz0]; exact below_new _)
    rw [← hz0]
    clear hz0 S
    obtain ⟨R0, r0, l0⟩ := T0.row
    refine (put0 q g y3.heap.size ([]) ([0, 0, 2, 2]) R0 z0 T0.cell r0 rfl (by have h : ([] : List Int).length = 0 := rfl; omega) rfl hs0).mono ?_
    rintro e v1 ⟨rfl, p0, G0⟩
    have S1 : BS w g q x ([0, 0, 2, 2]) v1 := T0.put p0 l0 rfl (by have h : ([] : List Int).length = 0 := rfl; omega) G0
    clear p0 l0 r0 G0 R0 T0
    clear hs0
    have cc := S1.bp
    obtain ⟨a0, a1, a2, a3, a4, a5, a6, a7, a8, a9, a10⟩ := cc
    go_wp2_with fail
    go_at_call 23
    clear a0 a1 a2 a3 a4 a5 a6 a7 a8 a9 a10
    refine (flagsI x v1).mono ?_
    rintro e f1 ⟨rfl, kq⟩
    have SF := S1.later kq
    clear kq S1
    go_wp2_with fail
    go_at_call 35
    obtain ⟨z1, hz1⟩ : ∃ z, z = f1.alloc (Obj.cells #[.int .u8 (flZ x)] 5) := ⟨_, rfl⟩
    have hs1 : ∀ j v, (by8 [flZ x])[j]? = some v → z1.cell? ⟨f1.heap.size, j, none⟩ = some v := by rw [hz1]; exact lit_cell f1 [flZ x]
    have T1 : BS w g q x ([0, 0, 2, 2]) z1 := SF.later (by rw [hz1]; exact below_new _)
    rw [← hz1]
    clear hz1 SF
    obtain ⟨R1, r1, l1⟩ := T1.row
    refine (put4 q g f1.heap.size ([0, 0, 2, 2]) ([flZ x]) R1 z1 T1.cell r1 rfl (by have h : ([0, 0, 2, 2] : List Int).length = 4 := rfl; omega) rfl hs1).mono ?_
    rintro e v2 ⟨rfl, p1, G1⟩
    have S2 : BS w g q x ([0, 0, 2, 2] ++ [flZ x]) v2 := T1.put p1 l1 rfl (by have h : ([0, 0, 2, 2] : List Int).length = 4 := rfl; omega) G1
    clear p1 l1 r1 G1 R1 T1
    clear hs1
    have cc := S2.bp
    obtain ⟨a0, a1, a2, a3, a4, a5, a6, a7, a8, a9, a10⟩ := cc
    go_wp2_with fail
    go_at_call 36
    clear a0 a1 a2 a3 a4 a5 a6 a7 a8 a9 a10
    refine (brByI x.r v2 (by omega) (by omega)).mono ?_
    rintro e z2 ⟨rfl, hz2⟩
    have hs2 : ∀ j v, (by8 [128, 0, 0, 0, 0, 0, 0, x.r])[j]? = some v → z2.cell? ⟨v2.heap.size, j, none⟩ = some v := by rw [hz2]; exact lit_cell v2 [128, 0, 0, 0, 0, 0, 0, x.r]
    have T2 : BS w g q x ([0, 0, 2, 2] ++ [flZ x]) z2 := S2.later (by rw [hz2]; exact below_new _)
    clear hz2 S2
    go_wp2_with fail
    go_at_call 35
    obtain ⟨R2, r2, l2⟩ := T2.row
    refine (put5 q g v2.heap.size ([0, 0, 2, 2] ++ [flZ x]) ([128, 0, 0, 0, 0, 0, 0, x.r]) R2 z2 T2.cell r2 rfl (by have h : ([0, 0, 2, 2] ++ [flZ x] : List Int).length = 5 := rfl; omega) rfl hs2).mono ?_
    rintro e v3 ⟨rfl, p2, G2⟩
    have S3 : BS w g q x ([0, 0, 2, 2] ++ [flZ x] ++ [128, 0, 0, 0, 0, 0, 0, x.r]) v3 := T2.put p2 l2 rfl (by have h : ([0, 0, 2, 2] ++ [flZ x] : List Int).length = 5 := rfl; omega) G2
    clear p2 l2 r2 G2 R2 T2
    clear hs2
    have cc := S3.bp
    obtain ⟨a0, a1, a2, a3, a4, a5, a6, a7, a8, a9, a10⟩ := cc
    have hmul : x.c * 20000 = 20000 * x.c := by omega
    go_wp2_with fail
    go_at_call 37
    clear a0 a1 a2 a3 a4 a5 a6 a7 a8 a9 a10
    refine (highI (20000 * x.c) v3 (by omega) (by omega)).mono ?_
    rintro e z3 ⟨rfl, hs3, lz, kz⟩
    have T3 := S3.later kz
    clear kz S3 hmul
    go_wp2_with fail
    go_at_call 35
    obtain ⟨R3, r3, l3⟩ := T3.row
    refine (put13 q g v3.heap.size ([0, 0, 2, 2] ++ [flZ x] ++ [128, 0, 0, 0, 0, 0, 0, x.r]) (hi4 (20000 * x.c)) R3 z3 T3.cell r3 rfl (by have h : ([0, 0, 2, 2] ++ [flZ x] ++ [128, 0, 0, 0, 0, 0, 0, x.r] : List Int).length = 13 := rfl; omega) rfl hs3).mono ?_
    rintro e v4 ⟨rfl, p3, G3⟩
    have S4 : BS w g q x ([0, 0, 2, 2] ++ [flZ x] ++ [128, 0, 0, 0, 0, 0, 0, x.r] ++ hi4 (20000 * x.c)) v4 := T3.put p3 l3 rfl (by have h : ([0, 0, 2, 2] ++ [flZ x] ++ [128, 0, 0, 0, 0, 0, 0, x.r] : List Int).length = 13 := rfl; omega) G3
    clear p3 l3 r3 G3 R3 T3
    clear hs3 lz
    have cc := S4.bp
    obtain ⟨a0, a1, a2, a3, a4, a5, a6, a7, a8, a9, a10⟩ := cc
    go_wp2_with fail
    go_at_call 36
    clear a0 a1 a2 a3 a4 a5 a6 a7 a8 a9 a10
    refine (brByI x.b v4 (by omega) (by omega)).mono ?_
    rintro e z4 ⟨rfl, hz4⟩
    have hs4 : ∀ j v, (by8 [128, 0, 0, 0, 0, 0, 0, x.b])[j]? = some v → z4.cell? ⟨v4.heap.size, j, none⟩ = some v := by rw [hz4]; exact lit_cell v4 [128, 0, 0, 0, 0, 0, 0, x.b]
    have T4 : BS w g q x ([0, 0, 2, 2] ++ [flZ x] ++ [128, 0, 0, 0, 0, 0, 0, x.r] ++ hi4 (20000 * x.c)) z4 := S4.later (by rw [hz4]; exact below_new _)
    clear hz4 S4
    go_wp2_with fail
    go_at_call 35
    obtain ⟨R4, r4, l4⟩ := T4.row
    refine (put17 q g v4.heap.size ([0, 0, 2, 2] ++ [flZ x] ++ [128, 0, 0, 0, 0, 0, 0, x.r] ++ hi4 (20000 * x.c)) ([128, 0, 0, 0, 0, 0, 0, x.b]) R4 z4 T4.cell r4 rfl (by have h : ([0, 0, 2, 2] ++ [flZ x] ++ [128, 0, 0, 0, 0, 0, 0, x.r] ++ hi4 (20000 * x.c) : List Int).length = 17 := rfl; omega) rfl hs4).mono ?_
    rintro e v5 ⟨rfl, p4, G4⟩
    have S5 : BS w g q x ([0, 0, 2, 2] ++ [flZ x] ++ [128, 0, 0, 0, 0, 0, 0, x.r] ++ hi4 (20000 * x.c) ++ [128, 0, 0, 0, 0, 0, 0, x.b]) v5 := T4.put p4 l4 rfl (by have h : ([0, 0, 2, 2] ++ [flZ x] ++ [128, 0, 0, 0, 0, 0, 0, x.r] ++ hi4 (20000 * x.c) : List Int).length = 17 := rfl; omega) G4
    clear p4 l4 r4 G4 R4 T4
    clear hs4
    have cc := S5.bp
    obtain ⟨a0, a1, a2, a3, a4, a5, a6, a7, a8, a9, a10⟩ := cc
    go_wp2_with fail
    go_at_call 35
    clear a0 a1 a2 a3 a4 a5 a6 a7 a8 a9 a10
    obtain ⟨z5, hz5⟩ : ∃ z, z = v5.alloc (Obj.cells #[.int .u8 128, .int .u8 (x.p + 1)] 5) := ⟨_, rfl⟩
    have hs5 : ∀ j v, (by8 [128, x.p + 1])[j]? = some v → z5.cell? ⟨v5.heap.size, j, none⟩ = some v := by rw [hz5]; exact lit_cell v5 [128, x.p + 1]
    have T5 : BS w g q x ([0, 0, 2, 2] ++ [flZ x] ++ [128, 0, 0, 0, 0, 0, 0, x.r] ++ hi4 (20000 * x.c) ++ [128, 0, 0, 0, 0, 0, 0, x.b]) z5 := S5.later (by rw [hz5]; exact below_new _)
    rw [← hz5]
    clear hz5 S5
    obtain ⟨R5, r5, l5⟩ := T5.row
    refine (put25 q g v5.heap.size ([0, 0, 2, 2] ++ [flZ x] ++ [128, 0, 0, 0, 0, 0, 0, x.r] ++ hi4 (20000 * x.c) ++ [128, 0, 0, 0, 0, 0, 0, x.b]) ([128, x.p + 1]) R5 z5 T5.cell r5 rfl (by have h : ([0, 0, 2, 2] ++ [flZ x] ++ [128, 0, 0, 0, 0, 0, 0, x.r] ++ hi4 (20000 * x.c) ++ [128, 0, 0, 0, 0, 0, 0, x.b] : List Int).length = 25 := rfl; omega) rfl hs5).mono ?_
    rintro e v6 ⟨rfl, p5, G5⟩
    have S6 : BS w g q x ([0, 0, 2, 2] ++ [flZ x] ++ [128, 0, 0, 0, 0, 0, 0, x.r] ++ hi4 (20000 * x.c) ++ [128, 0, 0, 0, 0, 0, 0, x.b] ++ [128, x.p + 1]) v6 := T5.put p5 l5 rfl (by have h : ([0, 0, 2, 2] ++ [flZ x] ++ [128, 0, 0, 0, 0, 0, 0, x.r] ++ hi4 (20000 * x.c) ++ [128, 0, 0, 0, 0, 0, 0, x.b] : List Int).length = 25 := rfl; omega) G5
    clear p5 l5 r5 G5 R5 T5
    clear hs5
    have cc := S6.bp
    obtain ⟨a0, a1, a2, a3, a4, a5, a6, a7, a8, a9, a10⟩ := cc
    go_wp2_with fail
    go_at_call 35
    clear a0 a1 a2 a3 a4 a5 a6 a7 a8 a9 a10
    obtain ⟨z6, hz6⟩ : ∃ z, z = v6.alloc (Obj.cells #[.int .u8 x.h, .int .u8 0] 5) := ⟨_, rfl⟩
    have hs6 : ∀ j v, (by8 [x.h, 0])[j]? = some v → z6.cell? ⟨v6.heap.size, j, none⟩ = some v := by rw [hz6]; exact lit_cell v6 [x.h, 0]
    have T6 : BS w g q x ([0, 0, 2, 2] ++ [flZ x] ++ [128, 0, 0, 0, 0, 0, 0, x.r] ++ hi4 (20000 * x.c) ++ [128, 0, 0, 0, 0, 0, 0, x.b] ++ [128, x.p + 1]) z6 := S6.later (by rw [hz6]; exact below_new _)
    rw [← hz6]
    clear hz6 S6
    obtain ⟨R6, r6, l6⟩ := T6.row
    refine (put27 q g v6.heap.size ([0, 0, 2, 2] ++ [flZ x] ++ [128, 0, 0, 0, 0, 0, 0, x.r] ++ hi4 (20000 * x.c) ++ [128, 0, 0, 0, 0, 0, 0, x.b] ++ [128, x.p + 1]) ([x.h, 0]) R6 z6 T6.cell r6 rfl (by have h : ([0, 0, 2, 2] ++ [flZ x] ++ [128, 0, 0, 0, 0, 0, 0, x.r] ++ hi4 (20000 * x.c) ++ [128, 0, 0, 0, 0, 0, 0, x.b] ++ [128, x.p + 1] : List Int).length = 27 := rfl; omega) rfl hs6).mono ?_
    rintro e v7 ⟨rfl, p6, G6⟩
    have S7 : BS w g q x ([0, 0, 2, 2] ++ [flZ x] ++ [128, 0, 0, 0, 0, 0, 0, x.r] ++ hi4 (20000 * x.c) ++ [128, 0, 0, 0, 0, 0, 0, x.b] ++ [128, x.p + 1] ++ [x.h, 0]) v7 := T6.put p6 l6 rfl (by have h : ([0, 0, 2, 2] ++ [flZ x] ++ [128, 0, 0, 0, 0, 0, 0, x.r] ++ hi4 (20000 * x.c) ++ [128, 0, 0, 0, 0, 0, 0, x.b] ++ [128, x.p + 1] : List Int).length = 27 := rfl; omega) G6
    clear p6 l6 r6 G6 R6 T6
    clear hs6
    go_wp2_with fail
    go_at_call 35
    obtain ⟨z7, hz7⟩ : ∃ z, z = v7.alloc (Obj.cells #[.int .u8 8, .int .u8 0, .int .u8 2, .int .u8 0, .int .u8 15, .int .u8 0, .int .u8 0] 5) := ⟨_, rfl⟩
    have hs7 : ∀ j v, (by8 [8, 0, 2, 0, 15, 0, 0])[j]? = some v → z7.cell? ⟨v7.heap.size, j, none⟩ = some v := by rw [hz7]; exact lit_cell v7 [8, 0, 2, 0, 15, 0, 0]
    have T7 : BS w g q x ([0, 0, 2, 2] ++ [flZ x] ++ [128, 0, 0, 0, 0, 0, 0, x.r] ++ hi4 (20000 * x.c) ++ [128, 0, 0, 0, 0, 0, 0, x.b] ++ [128, x.p + 1] ++ [x.h, 0]) z7 := S7.later (by rw [hz7]; exact below_new _)
    rw [← hz7]
    clear hz7 S7
    obtain ⟨R7, r7, l7⟩ := T7.row
    refine (put29 q g v7.heap.size ([0, 0, 2, 2] ++ [flZ x] ++ [128, 0, 0, 0, 0, 0, 0, x.r] ++ hi4 (20000 * x.c) ++ [128, 0, 0, 0, 0, 0, 0, x.b] ++ [128, x.p + 1] ++ [x.h, 0]) ([8, 0, 2, 0, 15, 0, 0]) R7 z7 T7.cell r7 rfl (by have h : ([0, 0, 2, 2] ++ [flZ x] ++ [128, 0, 0, 0, 0, 0, 0, x.r] ++ hi4 (20000 * x.c) ++ [128, 0, 0, 0, 0, 0, 0, x.b] ++ [128, x.p + 1] ++ [x.h, 0] : List Int).length = 29 := rfl; omega) rfl hs7).mono ?_
    rintro e v8 ⟨rfl, p7, G7⟩
    have S8 : BS w g q x ([0, 0, 2, 2] ++ [flZ x] ++ [128, 0, 0, 0, 0, 0, 0, x.r] ++ hi4 (20000 * x.c) ++ [128, 0, 0, 0, 0, 0, 0, x.b] ++ [128, x.p + 1] ++ [x.h, 0] ++ [8, 0, 2, 0, 15, 0, 0]) v8 := T7.put p7 l7 rfl (by have h : ([0, 0, 2, 2] ++ [flZ x] ++ [128, 0, 0, 0, 0, 0, 0, x.r] ++ hi4 (20000 * x.c) ++ [128, 0, 0, 0, 0, 0, 0, x.b] ++ [128, x.p + 1] ++ [x.h, 0] : List Int).length = 29 := rfl; omega) G7
    clear p7 l7 r7 G7 R7 T7
    clear hs7
    have hcl := S8.cell
    go_wp2
    go_ret
    exact ⟨some ⟨g, 0, none⟩, 36, rfl, S8.own rfl, S8.bel⟩

end Go.Proofs.Ytlgcjhebbmejaaa
