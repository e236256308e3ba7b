/- What comes in, drawn, with its bounds. Numbers and lists drawn. -/
import Derived.Test.YthgcbihhdbpbdaaGreatDoorRows
import Derived.WalkKit
import Derived.ProofKit
import Derived.OpenShut
import Derived.ShutString
import Derived.ChangeOld
import Derived.Below
import Derived.Deep.QuietTactic
import Derived.BigQuiet
import Derived.WalkSmall
import Derived.Laws.OwnMore
import Derived.WalkSpells
import Derived.WalkLawsBesides
import Derived.Deep.Cut
import Derived.Test.YthgcbihhdbpbdaaGreatDoorM7
import Derived.Test.YthgcbihhdbpbdaaGreatDoorM1
import Derived.Maps.AppendAt
import Derived.Test.YthgcbihhdbpbdaaGreatDoorM11
import Derived.Test.YthgcbihhdbpbdaaGreatDoorM12
import Derived.Test.YthgcbihhdbpbdaaGreatDoorM4
namespace Go.Proofs.YthgcbihhdbpbdaaGreatDoor
open Go.ChangeShapes Go.WideShapes Go.ChangeAt Go.RowKit
open Go.ChangeMaps (open_string shut_string)
set_option linter.unusedVariables false
set_option maxRecDepth 100000

/-- The numbers of a drawn In are small. -/
def B8 (x : Ik) : Prop := (-9 ≤ x.q ∧ x.q ≤ 200) ∧ (-9 ≤ x.r ∧ x.r ≤ 200) ∧ (-9 ≤ x.c ∧ x.c ≤ 200) ∧ (-9 ≤ x.b ∧ x.b ≤ 200) ∧ (-9 ≤ x.p ∧ x.p ≤ 200) ∧ (-9 ≤ x.h ∧ x.h ≤ 200)
def DrewJ (w : World) (cb : Nat) (ad : Option Addr) (len cap : Nat) (f : Nat → Int) (e : Ending) (w' : World) : Prop := ∃ x : Ik, e = .returned (.agg #[.int .i64 x.k, .int .i64 x.q, .int .i64 x.r, .int .i64 x.c, .int .i64 x.b, .int .i64 x.p, .int .i64 x.h, .bool x.up]) ∧ Src w' cb ad len cap f ∧ w.grownBy w' (some cb) ∧ B8 x
set_option maxHeartbeats 4000000 in
theorem drawJ8 {cb : Nat} {ad : Option Addr} {len cap : Nat} {f : Nat → Int} (w : World) (hs : Src w cb ad len cap f) (hcb : cb < w.heap.size) : Calls Tryz.prog 45 #[.pointer (some ⟨cb, 0, none⟩)] w fun e w' => DrewJ w cb ad len cap f e w' := by
  obtain ⟨R, hRe⟩ : ∃ R, R = w.heap.size := ⟨_, rfl⟩
  have hR : w.heap.size ≤ R := by omega
  have hRc : R ≠ cb := by omega
  obtain ⟨x0, hx0⟩ : ∃ x, x = w.alloc (Obj.cells #[.int .i64 0, .int .i64 0, .int .i64 0, .int .i64 0, .int .i64 0, .int .i64 0, .int .i64 0, .bool false] 27) := ⟨_, rfl⟩
  have D0 : DV w cb ad len cap x0 := by rw [hx0]; exact (DV.start hs).alloc _
  have Q0 : IBox x0 R ⟨0, 0, 0, 0, 0, 0, 0, false⟩ := by rw [hx0, hRe]; exact ⟨InAt.new w _ ⟨0, 0, 0, 0, 0, 0, 0, false⟩, fun i => by simp [go_sem]⟩
  go_enter Tryz.func45, Tryz.ntmps45
  go_wp2_with fail
  go_at_call 56
  rw [← hx0, ← hRe]
  clear hx0 hRe
  refine (drawBelow (D0.src hs) 4 (by decide) (by decide)).mono ?_
  rintro e y1 ⟨q, rfl, q0_, q1_, s1, g1⟩
  have D1 := D0.step s1 g1
  have Q1 := Q0.grown g1 hRc
  clear D0 Q0 s1 g1
  go_wp2_with fail
  go_at_call 56
  refine (drawBelow (D1.src hs) 4 (by decide) (by decide)).mono ?_
  rintro e y2 ⟨t, rfl, t0_, t1_, s2, g2⟩
  have D2 := D1.step s2 g2
  have Q2 := Q1.grown g2 hRc
  clear D1 Q1 s2 g2
  by_cases h0 : t = 0
  · subst h0
    have DZ := ((((((((D2.set (N := R) (i := 0) (by omega) hcb (.int .i64 2)).set (N := R) (i := 1) (by omega) hcb (.int .i64 0)).set (N := R) (i := 2) (by omega) hcb (.int .i64 0)).set (N := R) (i := 3) (by omega) hcb (.int .i64 0)).set (N := R) (i := 4) (by omega) hcb (.int .i64 0)).set (N := R) (i := 5) (by omega) hcb (.int .i64 0)).set (N := R) (i := 6) (by omega) hcb (.int .i64 0)).set (N := R) (i := 7) (by omega) hcb (.bool false))
    obtain ⟨⟨q0, q1, q2, q3, q4, q5, q6, q7⟩, qf⟩ := Q2
    go_wp2
    refine bodyPost_ret (v := .agg #[.int .i64 2, .int .i64 0, .int .i64 0, .int .i64 0, .int .i64 0, .int .i64 0, .int .i64 0, .bool false]) (by simp [results, Tryz.results45, go_sem, *]) rfl ⟨⟨2, 0, 0, 0, 0, 0, 0, false⟩, rfl, DZ.src hs, DZ.gr, by first | (unfold B8; simp; done) | (unfold B8; simp; omega) | (unfold V4 at hV4; unfold B8; simp only; omega)⟩
  have e0 : (t == 0) = false := by simpa using h0
  by_cases h1 : t = 1
  · subst h1
    clear h0 e0
    go_wp2_with fail
    go_at_call 52
    refine (drawOnce (D2.src hs) 3 (by decide) (by decide)).mono ?_
    rintro e y3 ⟨bo, rfl, s3, g3⟩
    have D3 := D2.step s3 g3
    have Q3 := Q2.grown g3 hRc
    clear D2 Q2 s3 g3
    have DZ := ((((((((D3.set (N := R) (i := 0) (by omega) hcb (.int .i64 3)).set (N := R) (i := 1) (by omega) hcb (.int .i64 q)).set (N := R) (i := 2) (by omega) hcb (.int .i64 0)).set (N := R) (i := 3) (by omega) hcb (.int .i64 0)).set (N := R) (i := 4) (by omega) hcb (.int .i64 0)).set (N := R) (i := 5) (by omega) hcb (.int .i64 0)).set (N := R) (i := 6) (by omega) hcb (.int .i64 0)).set (N := R) (i := 7) (by omega) hcb (.bool (!bo)))
    obtain ⟨⟨q0, q1, q2, q3, q4, q5, q6, q7⟩, qf⟩ := Q3
    go_wp2
    refine bodyPost_ret (v := .agg #[.int .i64 3, .int .i64 q, .int .i64 0, .int .i64 0, .int .i64 0, .int .i64 0, .int .i64 0, .bool (!bo)]) (by simp [results, Tryz.results45, go_sem, *]) rfl ⟨⟨3, q, 0, 0, 0, 0, 0, (!bo)⟩, rfl, DZ.src hs, DZ.gr, by first | (unfold B8; simp; done) | (unfold B8; simp; omega) | (unfold V4 at hV4; unfold B8; simp only; omega)⟩
  have e1 : (t == 1) = false := by simpa using h1
  go_wp2_with fail
  go_at_call 80
  refine (drawR6 y2 (D2.src hs) D2.cur.lt).mono ?_
  rintro e y3 ⟨r, c, b, p, rfl, hV4, s3, g3⟩
  have D3 := D2.step s3 g3
  have Q3 := Q2.grown g3 hRc
  clear D2 Q2 s3 g3
  go_wp2_with fail
  go_at_call 56
  refine (drawBelow (D3.src hs) 4 (by decide) (by decide)).mono ?_
  rintro e y4 ⟨h, rfl, h0_, h1_, s4, g4⟩
  have D4 := D3.step s4 g4
  have Q4 := Q3.grown g4 hRc
  clear D3 Q3 s4 g4
  have DZ := ((((((((D4.set (N := R) (i := 0) (by omega) hcb (.int .i64 1)).set (N := R) (i := 1) (by omega) hcb (.int .i64 q)).set (N := R) (i := 2) (by omega) hcb (.int .i64 r)).set (N := R) (i := 3) (by omega) hcb (.int .i64 c)).set (N := R) (i := 4) (by omega) hcb (.int .i64 b)).set (N := R) (i := 5) (by omega) hcb (.int .i64 p)).set (N := R) (i := 6) (by omega) hcb (.int .i64 h)).set (N := R) (i := 7) (by omega) hcb (.bool false))
  obtain ⟨⟨q0, q1, q2, q3, q4, q5, q6, q7⟩, qf⟩ := Q4
  go_wp2
  refine bodyPost_ret (v := .agg #[.int .i64 1, .int .i64 q, .int .i64 r, .int .i64 c, .int .i64 b, .int .i64 p, .int .i64 h, .bool false]) (by simp [results, Tryz.results45, go_sem, *]) rfl ⟨⟨1, q, r, c, b, p, h, false⟩, rfl, DZ.src hs, DZ.gr, by first | (unfold B8; simp; done) | (unfold B8; simp; omega) | (unfold V4 at hV4; unfold B8; simp only; omega)⟩

end Go.Proofs.YthgcbihhdbpbdaaGreatDoor
namespace Go.Proofs.YthgcbihhdbpbdaaGreatDoor
open Go.ChangeShapes Go.WideShapes Go.ChangeAt Go.RowKit
open Go.ChangeMaps (open_string shut_string)
set_option linter.unusedVariables false
set_option maxRecDepth 100000

theorem wfM {n : Int} (h0 : 0 ≤ n) (h1 : n ≤ 2147483647) : (Lit.int .i64 n).wf = true := by
  simp [Lit.wf, IntKind.min, IntKind.max, IntKind.signed, IntKind.bits]
  omega
theorem putZ_bytes (n : Int) : ∀ x ∈ putZ n, 0 ≤ x ∧ x ≤ 255 := by
  have key : ∀ m : Nat, ∀ x ∈ put m, 0 ≤ x ∧ x ≤ 255 := by
    intro m
    induction m using Nat.strongRecOn with
    | ind m ih =>
      intro x hx
      by_cases h : m ≤ 127
      · rw [put_lo h] at hx
        simp at hx
        omega
      · rw [put_hi h] at hx
        rcases List.mem_cons.1 hx with rfl | hx
        · omega
        · exact ih (m / 128) (by omega) x hx
  unfold putZ
  split
  · exact key _
  · intro x hx; cases hx

/-- A row that the call owns was written: all that was there before is as it was, but for the cursor. -/
theorem grown_row {w y z : World} {cb : Nat} {v : Value} (h : w.grownBy y (some cb)) (g : y.grownBy z v.ownBlock) (ho : ∀ k, v.ownBlock = some k → w.heap.size ≤ k) : w.grownBy z (some cb) :=
  ⟨g.os.trans h.os, g.tape.trans h.tape, g.output.trans h.output, Nat.le_trans h.size g.size, fun j hj hne => (g.block j (Nat.lt_of_lt_of_le hj h.size) (fun e => by have := ho j e.symm; omega)).trans (h.block j hj hne)⟩
set_option maxHeartbeats 4000000 in
theorem drawNm {cb : Nat} {ad : Option Addr} {len cap : Nat} {f : Nat → Int} (w : World) (hs : Src w cb ad len cap f) (hcb : cb < w.heap.size) : Calls Tryz.prog 46 #[.pointer (some ⟨cb, 0, none⟩)] w fun e w' => ∃ a c L, e = .returned (.slice a (List.length L) c) ∧ FOwn bEnc 1 5 w.heap.size w' (.slice a (List.length L) c) L ∧ (∀ x ∈ L, 0 ≤ x ∧ x ≤ 255) ∧ List.length L ≤ 30 ∧ Src w' cb ad len cap f ∧ w.grownBy w' (some cb) := by
  obtain ⟨i0, hi, hz0, hz1, hz2⟩ := info_parts bInfo
  have D0 : DV w cb ad len cap (w.alloc (Obj.cells #[] 5)) := (DV.start hs).alloc _
  go_enter Tryz.func46, Tryz.ntmps46
  go_wp2
  go_loopw [3, 4] (fun v i wr => ∃ (k : Nat) (P : List Int), k ≤ 4 ∧ P.length ≤ 5 * k ∧ (∀ x ∈ P, 0 ≤ x ∧ x ≤ 255) ∧ i = .int .i64 k ∧ FOwn bEnc 1 5 w.heap.size wr v P ∧ DV w cb ad len cap wr) (fun _ i _ => 4 - (intOf i).toNat)
  case atStart => exact ⟨0, [], by omega, by simp, (fun x h => absurd h (by simp)), rfl, FOwn.empty w, D0⟩
  case round =>
    obtain ⟨k, P, hk, hPl, hPb, rfl, O, D⟩ := hrel
    clear D0
    go_wp2_with fail
    go_at_call 56
    refine (drawBelow (D.src hs) 4 (by decide) (by decide)).mono ?_
    rintro e y1 ⟨x, rfl, x0, x1, s1, g1⟩
    have D1 := D.step s1 g1
    have O1 := O.grown g1 hcb
    clear O D s1 g1
    by_cases hlt : (k : Int) < x
    · obtain ⟨y2z, hy2z⟩ : ∃ y_, y_ = y1.alloc (Obj.cells #[.int .i64 0, .int .i64 1, .int .i64 127, .int .i64 128, .int .i64 300, .int .i64 2147483647] 3) := ⟨_, rfl⟩
      have kz : Below y1.heap.size y1 y2z := by rw [hy2z]; exact below_new _
      have hpk : ∀ i, i < 6 → ∃ y, y2z.cell? ⟨y1.heap.size, i, none⟩ = some (.int .i64 y) ∧ (fun y : Int => 0 ≤ y ∧ y ≤ 2147483647) y := fun i hi => by
        rw [hy2z]
        rcases (by omega : i = 0 ∨ i = 1 ∨ i = 2 ∨ i = 3 ∨ i = 4 ∨ i = 5) with rfl | rfl | rfl | rfl | rfl | rfl
        · exact ⟨(0 : Int), by simp [go_sem], by constructor <;> decide⟩
        · exact ⟨(1 : Int), by simp [go_sem], by constructor <;> decide⟩
        · exact ⟨(127 : Int), by simp [go_sem], by constructor <;> decide⟩
        · exact ⟨(128 : Int), by simp [go_sem], by constructor <;> decide⟩
        · exact ⟨(300 : Int), by simp [go_sem], by constructor <;> decide⟩
        · exact ⟨(2147483647 : Int), by simp [go_sem], by constructor <;> decide⟩
      have D1z := D1.later8 kz
      have hcz : y1.heap.size ≠ cb := by have := D1.cur.lt; omega
      have O1z := O1.later kz
      go_wp2_with fail
      go_at_call 47
      rw [← hy2z]
      clear hy2z kz
      refine (pickIntP (D1z.src hs) (fun y : Int => 0 ≤ y ∧ y ≤ 2147483647) y1.heap.size 6 6 hcz (by decide) (by decide) hpk).mono ?_
      rintro e y2 ⟨n, rfl, hn, s_, g_⟩
      have D1p := D1z.step s_ g_
      have O2 := O1z.grown g_ hcb
      obtain ⟨n0, n1⟩ := hn
      clear O1 O1z D1 D1z s_ g_ hpk hcz
      go_wp2_with fail
      go_at_call 81
      refine (putSpec n y2 (wfM n0 n1)).mono ?_
      rintro e y3 ⟨v3, rfl, o3, k3⟩
      have o3 := bOf o3
      obtain ⟨a3, c3, rfl⟩ := o3.open_
      have D3 := D1p.later8 k3
      have O3 := O2.later k3
      have zl := putZ_len n
      have zb := putZ_bytes n
      have c3n := o3.capn
      have v3 := o3.view.2
      generalize putZ n = X at zl zb v3 ⊢
      have S3 := D3.gr.size
      have ho : ∀ g, u3.ownBlock = some g → w.heap.size ≤ g := fun g e => (O3.lt g e).1
      clear O2 D1p o3 k3
      go_wp2_with (first | (at_builtin; refine fappL bEnc_len bEnc_ones rfl _ _ 22 rfl w.heap.size 5 i0 (.int .u8 0) 1 Tryz.underlying22 hi hz0 hz1 hz2 rfl (by decide) (by decide) _ P rfl ?n0 a3 c3 X rfl c3n ?n1 ?n2 ?n3 ?_))
      case n0 => exact O3
      case n1 => exact v3
      try case n2 => omega
      try case n3 => omega
      intro v4 y4 O4 g4 _
      have D4 : DV w cb ad len cap y4 := ⟨D3.cur.carry (g4.block _ D3.cur.lt (fun e => by have := ho _ e.symm; omega)), grown_row D3.gr g4 ho⟩
      go_wp2
      go_roundw
      case rel => exact ⟨k + 1, P ++ X, by omega, by simp; omega, (fun y hy => by rcases List.mem_append.1 hy with q | q; exact hPb y q; exact zb y q), by go_num, O4, D4⟩
      case measure => simp [intOf]; omega
    · go_wp2_with fail
      go_at_call 52
      refine (drawOnce (D1.src hs) 3 (by decide) (by decide)).mono ?_
      rintro e y2 ⟨o, rfl, s2, g2⟩
      have D2 := D1.step s2 g2
      have O2 := O1.grown g2 hcb
      clear D1 O1 s2 g2
      cases o with
      | false =>
        obtain ⟨aP, cP, rfl⟩ := O2.open_
        go_wp2
        go_ret
        exact ⟨aP, cP, P, rfl, O2, hPb, by omega, D2.src hs, D2.gr⟩
      | true =>
        obtain ⟨y3z, hy3z⟩ : ∃ y_, y_ = y2.alloc (Obj.cells #[.int .i64 0, .int .i64 128, .int .i64 255] 3) := ⟨_, rfl⟩
        have kz : Below y2.heap.size y2 y3z := by rw [hy3z]; exact below_new _
        have hpk : ∀ i, i < 3 → ∃ y, y3z.cell? ⟨y2.heap.size, i, none⟩ = some (.int .i64 y) ∧ (fun y : Int => 0 ≤ y ∧ y ≤ 255) y := fun i hi => by
          rw [hy3z]
          rcases (by omega : i = 0 ∨ i = 1 ∨ i = 2) with rfl | rfl | rfl
          · exact ⟨(0 : Int), by simp [go_sem], by constructor <;> decide⟩
          · exact ⟨(128 : Int), by simp [go_sem], by constructor <;> decide⟩
          · exact ⟨(255 : Int), by simp [go_sem], by constructor <;> decide⟩
        have D2z := D2.later8 kz
        have hcz : y2.heap.size ≠ cb := by have := D2.cur.lt; omega
        have O2z := O2.later kz
        go_wp2_with fail
        go_at_call 47
        rw [← hy3z]
        clear hy3z kz
        refine (pickIntP (D2z.src hs) (fun y : Int => 0 ≤ y ∧ y ≤ 255) y2.heap.size 3 3 hcz (by decide) (by decide) hpk).mono ?_
        rintro e y3 ⟨n, rfl, hn, s_, g_⟩
        have D2p := D2z.step s_ g_
        have O3 := O2z.grown g_ hcb
        obtain ⟨n0, n1⟩ := hn
        clear O2 O2z D2 D2z s_ g_ hpk hcz
        have hwn : IntKind.u8.wrap n = n := by rw [IntKind.wrap_u8]; omega
        go_wp2_with fail
        go_at_call 56
        refine (drawBelow (D2p.src hs) 3 (by decide) (by decide)).mono ?_
        rintro e y4 ⟨m, rfl, m0, m1, s4, g4⟩
        have D4 := D2p.step s4 g4
        have O4 := O3.grown g4 hcb
        clear D2p O3 s4 g4
        have hwm : IntKind.u8.wrap m = m := by rw [IntKind.wrap_u8]; omega
        obtain ⟨y5, hy5⟩ : ∃ y_, y_ = y4.alloc (Obj.cells #[.int .u8 n, .int .u8 m] 5) := ⟨_, rfl⟩
        have V5 : FView bEnc y5 (some ⟨y4.heap.size, 0, none⟩) [n, m] := by
          intro _
          refine ⟨y4.heap.size, 0, rfl, fun j v hv => ?_⟩
          rw [bCells] at hv
          have hj : j < 2 := by simpa using (List.getElem?_eq_some_iff.1 hv).1
          rw [hy5]
          rcases (by omega : j = 0 ∨ j = 1) with rfl | rfl <;> (cases hv; simp [go_sem])
        have k5 : Below y4.heap.size y4 y5 := by rw [hy5]; exact below_new _
        have D5 := D4.later8 k5
        have O5 := O4.later k5
        have S5 := D5.gr.size
        have ho : ∀ g, u3.ownBlock = some g → w.heap.size ≤ g := fun g e => (O5.lt g e).1
        clear D4 O4 k5
        go_wp2_with (first | (at_builtin; refine fappL bEnc_len bEnc_ones rfl _ _ 22 rfl w.heap.size 5 i0 (.int .u8 0) 1 Tryz.underlying22 hi hz0 hz1 hz2 rfl (by decide) (by decide) _ P rfl ?m0 (some ⟨y4.heap.size, 0, none⟩) 2 [n, m] rfl (fun e => by cases e) ?m1 ?m2 ?m3 ?_))
        case m0 => rw [← hy5]; exact O5
        case m1 => rw [← hy5]; exact V5
        try case m2 => simp; omega
        case m3 => rw [← hy5]; exact S5
        rw [← hy5]
        clear hy5
        intro v6 y6 O6 g6 _
        have D6 : DV w cb ad len cap y6 := ⟨D5.cur.carry (g6.block _ D5.cur.lt (fun e => by have := ho _ e.symm; omega)), grown_row D5.gr g6 ho⟩
        obtain ⟨aP, cP, rfl⟩ := O6.open_
        go_wp2
        go_ret
        exact ⟨aP, cP, P ++ [n, m], rfl, O6, (fun y hy => by simp at hy; rcases hy with q | rfl | rfl; exact hPb y q; omega; omega), by simp; omega, D6.src hs, D6.gr⟩
set_option maxHeartbeats 4000000 in
theorem drawLs {cb : Nat} {ad : Option Addr} {len cap : Nat} {f : Nat → Int} (w : World) (hs : Src w cb ad len cap f) (hcb : cb < w.heap.size) : Calls Tryz.prog 51 #[.pointer (some ⟨cb, 0, none⟩)] w fun e w' => ∃ a c L, e = .returned (.slice a (List.length L) c) ∧ FOwn ikEnc 8 27 w.heap.size w' (.slice a (List.length L) c) L ∧ List.length L ≤ 6 ∧ Src w' cb ad len cap f ∧ w.grownBy w' (some cb) := by
  obtain ⟨i0, hi, hz0, hz1, hz2⟩ := info_parts ikInfo
  have D0 : DV w cb ad len cap (w.alloc (Obj.cells #[] 27)) := (DV.start hs).alloc _
  go_enter Tryz.func51, Tryz.ntmps51
  go_wp2
  go_loopw [3, 4] (fun v i wr => ∃ (k : Nat) (P : List Ik), k ≤ 6 ∧ P.length = k ∧ i = .int .i64 k ∧ FOwn ikEnc 8 27 w.heap.size wr v P ∧ DV w cb ad len cap wr) (fun _ i _ => 6 - (intOf i).toNat)
  case atStart => exact ⟨0, [], by omega, rfl, rfl, FOwn.empty w, D0⟩
  case round =>
    obtain ⟨k, P, hk, hPl, rfl, O, D⟩ := hrel
    clear D0
    go_wp2_with fail
    go_at_call 56
    refine (drawBelow (D.src hs) 6 (by decide) (by decide)).mono ?_
    rintro e y1 ⟨x, rfl, x0, x1, s1, g1⟩
    have D1 := D.step s1 g1
    have O1 := O.grown g1 hcb
    clear O D s1 g1
    by_cases hlt : (k : Int) < x
    · go_wp2_with fail
      go_at_call 45
      refine (drawI8 y1 (D1.src hs) D1.cur.lt).mono ?_
      rintro e y2 ⟨xx, rfl, s2, g2⟩
      have D2 := D1.step s2 g2
      have O2 := O1.grown g2 hcb
      clear D1 O1 s2 g2
      obtain ⟨y3, hy3⟩ : ∃ y_, y_ = y2.alloc (Obj.cells #[.int .i64 xx.k, .int .i64 xx.q, .int .i64 xx.r, .int .i64 xx.c, .int .i64 xx.b, .int .i64 xx.p, .int .i64 xx.h, .bool xx.up] 27) := ⟨_, rfl⟩
      have V3 : FView ikEnc y3 (some ⟨y2.heap.size, 0, none⟩) [xx] := by rw [hy3]; exact FView.oneI y2 _ xx
      have k3 : Below y2.heap.size y2 y3 := by rw [hy3]; exact below_new _
      have D3 := D2.later8 k3
      have O3 := O2.later k3
      have S3 := D3.gr.size
      have ho : ∀ g, u3.ownBlock = some g → w.heap.size ≤ g := fun g e => (O3.lt g e).1
      replace hPl : Hid _ := hPl
      clear D2 O2 k3
      go_wp2_with (first | (at_builtin; refine fappL ikEnc_len ikEnc_ones rfl _ _ 34 rfl w.heap.size 27 i0 (.agg #[.int .i64 0, .int .i64 0, .int .i64 0, .int .i64 0, .int .i64 0, .int .i64 0, .int .i64 0, .bool false]) 64 Tryz.underlying34 hi hz0 hz1 hz2 rfl (by decide) (by decide) _ P rfl ?z0 (some ⟨y2.heap.size, 0, none⟩) 1 [xx] rfl (fun e => by cases e) ?z1 ?z2 ?z3 ?_))
      case z0 => rw [← hy3]; exact O3
      case z1 => rw [← hy3]; exact V3
      try case z2 => have := hPl.out; simp; omega
      case z3 => rw [← hy3]; exact S3
      rw [← hy3]
      clear hy3
      intro v4 y4 O4 g4 _
      have D4 : DV w cb ad len cap y4 := ⟨D3.cur.carry (g4.block _ D3.cur.lt (fun e => by have := ho _ e.symm; omega)), grown_row D3.gr g4 ho⟩
      go_wp2
      go_roundw
      case rel => exact ⟨k + 1, P ++ [xx], by omega, by have := hPl.out; simp; omega, by go_num, O4, D4⟩
      case measure => simp [intOf]; omega
    · obtain ⟨aP, cP, rfl⟩ := O1.open_
      have hl6 : P.length ≤ 6 := by omega
      clear hPl
      go_wp2
      go_ret
      exact ⟨aP, cP, P, rfl, O1, hl6, D1.src hs, D1.gr⟩

end Go.Proofs.YthgcbihhdbpbdaaGreatDoor
