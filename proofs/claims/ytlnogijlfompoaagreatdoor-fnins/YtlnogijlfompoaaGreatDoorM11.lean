/- spec.InOf, walked. spec.AllOf, walked. Numbers and lists drawn. How much is said. What is said is small. -/
import Derived.Test.YtlnogijlfompoaaGreatDoorRows
import Derived.WalkKit
import Derived.ProofKit
import Derived.OpenShut
import Derived.ShutString
import Derived.ChangeOld
import Derived.Below
import Derived.Deep.QuietTactic
import Derived.BigQuiet
import Derived.WalkSmall
import Derived.Laws.OwnMore
import Derived.WalkSpells
import Derived.WalkLawsBesides
import Derived.Test.YtlnogijlfompoaaGreatDoorKIo1
import Derived.Test.YtlnogijlfompoaaGreatDoorKIo3
import Derived.Test.YtlnogijlfompoaaGreatDoorKIoe
import Derived.Deep.Cut
import Derived.Maps.AppendAt
import Derived.Test.YtlnogijlfompoaaGreatDoorM8
import Derived.Test.YtlnogijlfompoaaGreatDoorM4
import Derived.Test.YtlnogijlfompoaaGreatDoorM6
import Derived.Test.YtlnogijlfompoaaGreatDoorM10
import Derived.Test.YtlnogijlfompoaaGreatDoorKCur
import Derived.Test.YtlnogijlfompoaaGreatDoorKRe5
namespace Go.Proofs.YtlnogijlfompoaaGreatDoor
open Go.ChangeShapes Go.WideShapes Go.ChangeAt Go.RowKit
open Go.ChangeMaps (open_string shut_string)
set_option linter.unusedVariables false
set_option maxRecDepth 100000

theorem inOfS (ad : Option Addr) (cap : Nat) (L : List Int) (a : Int) (w : World) (hv : View w ad L.length (fun i => L.getD i 0)) (hB : ∀ x, ad = some x → 0 < L.length → x.block < w.heap.size) (hl : L.length ≤ 1048576) (hcap : L.length ≤ cap) (hLbd : ∀ x ∈ L, 0 ≤ x ∧ x ≤ 255) (ha0 : -9223372036854775808 ≤ a ∧ a ≤ 9223372036854775807) :
    Calls Tryz.prog 9 #[.slice ad L.length cap, .int .i64 a] w fun e w' => e = .returned (inOfV (inAt L a)) ∧ Below w.heap.size w w' := by
  by_cases h1 : (rdN L (a, true)).1 = 1
  · exact inOfS1 ad cap L a w hv hB hl hcap hLbd h1 ha0
  by_cases h3 : (rdN L (a, true)).1 = 3
  · exact inOfS3 ad cap L a w hv hB hl hcap hLbd h3 ha0
  exact inOfSe ad cap L a w hv hB hl hcap hLbd h1 h3 ha0

end Go.Proofs.YtlnogijlfompoaaGreatDoor
namespace Go.Proofs.YtlnogijlfompoaaGreatDoor
open Go.ChangeShapes Go.WideShapes Go.ChangeAt Go.RowKit
open Go.ChangeMaps (open_string shut_string)
set_option linter.unusedVariables false
set_option maxRecDepth 100000

theorem ikInfo : (Tryz.prog.info? 27).map (fun i => (i.zero, i.size, i.bytes)) = some (some (.agg #[.int .i64 0, .int .i64 0, .int .i64 0, .int .i64 0, .int .i64 0, .int .i64 0, .int .i64 0, .bool false]), 8, 64) := by kernel_rfl
theorem FView.oneI (w : World) (t : TypeId) (x : Ik) : FView ikEnc (w.alloc (Obj.cells #[.int .i64 x.k, .int .i64 x.q, .int .i64 x.r, .int .i64 x.c, .int .i64 x.b, .int .i64 x.p, .int .i64 x.h, .bool x.up] t)) (some ⟨w.heap.size, 0, none⟩) [x] := by
  intro _
  refine ⟨w.heap.size, 0, rfl, fun j v hv => ?_⟩
  simp only [fcells, ikEnc, List.append_nil] at hv
  have hj : j < 8 := (List.getElem?_eq_some_iff.1 hv).1
  rcases (by omega : j = 0 ∨ j = 1 ∨ j = 2 ∨ j = 3 ∨ j = 4 ∨ j = 5 ∨ j = 6 ∨ j = 7) with rfl | rfl | rfl | rfl | rfl | rfl | rfl | rfl <;> (cases hv; simp [go_sem])
/-- What is still to be read, behind what was. -/
def AllAt (L : List Int) (P : List Ik) (a : Int) (R : List Ik × Int) : Prop := (P ++ (allG L a).1, (allG L a).2) = R
theorem AllAt.stop {L : List Int} {P : List Ik} {a : Int} {R : List Ik × Int} (h : AllAt L P a R) (hn : inAt L a = none) : R = (P, a) := by
  unfold AllAt at h
  rw [allG_none hn] at h
  rw [← h]; simp
theorem AllAt.next {L : List Int} {P : List Ik} {a s : Int} {x : Ik} {R : List Ik × Int} (h : AllAt L P a R) (hn : inAt L a = some (x, s)) : AllAt L (P ++ [x]) s R ∧ a + 6 ≤ s ∧ 0 ≤ a ∧ s ≤ L.length := by
  obtain ⟨g1, g2, g3, g4⟩ := allG_some hn
  unfold AllAt at h ⊢
  rw [g1] at h
  refine ⟨?_, g2, g3, g4⟩
  rw [← h]; simp
theorem inAt_end {L : List Int} {a : Int} (h : (L.length : Int) ≤ a) : inAt L a = none := by
  cases hx : inAt L a with
  | none => rfl
  | some y =>
    obtain ⟨x, s⟩ := y
    have := allG_some hx
    omega
theorem allG_len (L : List Int) : (allG L 0).1.length ≤ L.length := by
  obtain ⟨h1, h2, h3, h4⟩ := allG_back L
  have h5 := allB_long h4
  have h6 := congrArg List.length h3
  simp only [List.length_take] at h6
  omega
set_option maxHeartbeats 8000000 in
theorem allOfS (ad : Option Addr) (cap : Nat) (L : List Int) (w : World) (hv : View w ad L.length (fun i => L.getD i 0)) (hB : ∀ x, ad = some x → 0 < L.length → x.block < w.heap.size) (hl : L.length ≤ 1048576) (hcap : L.length ≤ cap) (hLbd : ∀ x ∈ L, 0 ≤ x ∧ x ≤ 255) :
    Calls Tryz.prog 14 #[.slice ad L.length cap] w fun e w' => ∃ aM cM, e = .returned (.tuple #[.slice aM (allG L 0).1.length cM, .int .i64 (allG L 0).2]) ∧ FOwn ikEnc 8 27 w.heap.size w' (.slice aM (allG L 0).1.length cM) (allG L 0).1 ∧ Below w.heap.size w w' := by
  obtain ⟨i0, hi, hz0, hz1, hz2⟩ := info_parts ikInfo
  obtain ⟨R, hR⟩ : ∃ R, allG L 0 = R := ⟨_, rfl⟩
  have hA : Hid (AllAt L [] 0 R) := by show _ = _; rw [← hR]; simp
  rw [hR]
  clear hR
  go_enter Tryz.func14, Tryz.ntmps14
  go_wp2
  go_loopw [4, 5] (fun v i wr => ∃ (a : Int) (P : List Ik), 0 ≤ a ∧ a ≤ L.length ∧ 6 * (P.length : Int) ≤ a ∧ i = .int .i64 a ∧ Hid (AllAt L P a R) ∧ FOwn ikEnc 8 27 w.heap.size wr v P ∧ Below w.heap.size w wr) (fun _ i _ => L.length - (intOf i).toNat)
  case atStart => exact ⟨0, [], by omega, by omega, by simp, rfl, hA, FOwn.empty w, (Below.refl _ _).alloc (Nat.le_refl _) _⟩
  case round =>
    obtain ⟨a, P, a0, a1, a2, rfl, hG, O, B⟩ := hrel
    clear hA
    have sB := B.size
    go_wp2_with fail
    go_at_call 9
    refine (inOfS ad cap L a wr (hv.carry (fun x h h2 => B.block _ (hB x h h2))) (fun x h h2 => by have := hB x h h2; omega) hl hcap hLbd (by omega)).mono ?_
    rintro e w1 ⟨rfl, k1⟩
    replace B := B.trans (k1.mono sB)
    replace O := O.later k1
    clear k1 sB
    cases hx : inAt L a with
    | none =>
      obtain rfl := hG.out.stop hx
      obtain ⟨aM, cM, rfl⟩ := O.open_
      rw [show inOfV none = .tuple #[.agg #[.int .i64 0, .int .i64 0, .int .i64 0, .int .i64 0, .int .i64 0, .int .i64 0, .int .i64 0, .bool false], .int .i64 0, .bool false] from rfl]
      clear hx hG
      have B1 := B.alloc B.size (Obj.cells #[.int .i64 0, .int .i64 0, .int .i64 0, .int .i64 0, .int .i64 0, .int .i64 0, .int .i64 0, .bool false] 27)
      have O1 := O.later (below_new (w := w1) (Obj.cells #[.int .i64 0, .int .i64 0, .int .i64 0, .int .i64 0, .int .i64 0, .int .i64 0, .int .i64 0, .bool false] 27))
      go_wp2
      go_ret2
      exact ⟨aM, cM, rfl, O1, B1⟩
    | some xs =>
      obtain ⟨x, s⟩ := xs
      obtain ⟨hN, n1, n2, n3⟩ := hG.out.next hx
      replace hN : Hid _ := hN
      rw [show inOfV (some (x, s)) = .tuple #[.agg #[.int .i64 x.k, .int .i64 x.q, .int .i64 x.r, .int .i64 x.c, .int .i64 x.b, .int .i64 x.p, .int .i64 x.h, .bool x.up], .int .i64 s, .bool true] from rfl]
      clear hx hG
      obtain ⟨w2, hw2⟩ : ∃ y_, y_ = w1.alloc (Obj.cells #[.int .i64 x.k, .int .i64 x.q, .int .i64 x.r, .int .i64 x.c, .int .i64 x.b, .int .i64 x.p, .int .i64 x.h, .bool x.up] 27) := ⟨_, rfl⟩
      have X0 : JBox w2 w1.heap.size x := by rw [hw2]; exact ⟨InAt.new w1 _ x, fun i => by simp [go_sem]⟩
      have k2 : Below w1.heap.size w1 w2 := by rw [hw2]; exact below_new _
      replace B := B.trans (k2.mono B.size)
      replace O := O.later k2
      go_upto_region 4 with fail
      rw [← hw2]
      clear hw2 k2
      obtain ⟨w3, hw3⟩ : ∃ y_, y_ = w2.alloc (Obj.cells #[.int .i64 x.k, .int .i64 x.q, .int .i64 x.r, .int .i64 x.c, .int .i64 x.b, .int .i64 x.p, .int .i64 x.h, .bool x.up] 27) := ⟨_, rfl⟩
      have V1 : FView ikEnc w3 (some ⟨w2.heap.size, 0, none⟩) [x] := by rw [hw3]; exact FView.oneI w2 _ x
      have k3 : Below w2.heap.size w2 w3 := by rw [hw3]; exact below_new _
      have O3 := O.later k3
      have B3 := B.trans (k3.mono B.size)
      have z1 := B3.size
      obtain ⟨⟨e0, e1, e2, e3, e4, e5, e6, e7⟩, ef⟩ := X0
      go_wp2_with (first | (at_builtin; refine fappL ikEnc_len ikEnc_ones rfl _ _ 34 rfl w.heap.size 27 i0 (.agg #[.int .i64 0, .int .i64 0, .int .i64 0, .int .i64 0, .int .i64 0, .int .i64 0, .int .i64 0, .bool false]) 64 Tryz.underlying34 hi hz0 hz1 hz2 rfl (by decide) (by decide) _ P rfl ?zs0 (some ⟨w2.heap.size, 0, none⟩) 1 [x] rfl (fun e => by cases e) ?zs1 ?zs2 ?zs3 ?_))
      case zs0 => rw [← hw3]; exact O3
      case zs1 => rw [← hw3]; exact V1
      try case zs2 => simp; omega
      case zs3 => have := B.size; first | omega | (simp; omega)
      rw [← hw3]
      clear hw3 e0 e1 e2 e3 e4 e5 e6 e7 ef
      intro vZ wZ oZ gZ _
      have BZ : Below w.heap.size w wZ := B3.grown gZ z1 (fun g e => (O3.lt g e).1)
      go_wp2
      go_roundw
      case rel => exact ⟨s, P ++ [x], by omega, n3, by simp; omega, rfl, hN, oZ, BZ⟩
      case measure => simp [intOf]; omega

end Go.Proofs.YtlnogijlfompoaaGreatDoor
namespace Go.Proofs.YtlnogijlfompoaaGreatDoor
open Go.ChangeShapes Go.WideShapes Go.ChangeAt Go.RowKit
open Go.ChangeMaps (open_string shut_string)
set_option linter.unusedVariables false
set_option maxRecDepth 100000

theorem wfM {n : Int} (h0 : 0 ≤ n) (h1 : n ≤ 2147483647) : (Lit.int .i64 n).wf = true := by
  simp [Lit.wf, IntKind.min, IntKind.max, IntKind.signed, IntKind.bits]
  omega
theorem putZ_bytes (n : Int) : ∀ x ∈ putZ n, 0 ≤ x ∧ x ≤ 255 := by
  have key : ∀ m : Nat, ∀ x ∈ put m, 0 ≤ x ∧ x ≤ 255 := by
    intro m
    induction m using Nat.strongRecOn with
    | ind m ih =>
      intro x hx
      by_cases h : m ≤ 127
      · rw [put_lo h] at hx
        simp at hx
        omega
      · rw [put_hi h] at hx
        rcases List.mem_cons.1 hx with rfl | hx
        · omega
        · exact ih (m / 128) (by omega) x hx
  unfold putZ
  split
  · exact key _
  · intro x hx; cases hx

/-- A row that the call owns was written: all that was there before is as it was, but for the cursor. -/
theorem grown_row {w y z : World} {cb : Nat} {v : Value} (h : w.grownBy y (some cb)) (g : y.grownBy z v.ownBlock) (ho : ∀ k, v.ownBlock = some k → w.heap.size ≤ k) : w.grownBy z (some cb) :=
  ⟨g.os.trans h.os, g.tape.trans h.tape, g.output.trans h.output, Nat.le_trans h.size g.size, fun j hj hne => (g.block j (Nat.lt_of_lt_of_le hj h.size) (fun e => by have := ho j e.symm; omega)).trans (h.block j hj hne)⟩
set_option maxHeartbeats 4000000 in
theorem drawNm {cb : Nat} {ad : Option Addr} {len cap : Nat} {f : Nat → Int} (w : World) (hs : Src w cb ad len cap f) (hcb : cb < w.heap.size) : Calls Tryz.prog 33 #[.pointer (some ⟨cb, 0, none⟩)] w fun e w' => ∃ a c L, e = .returned (.slice a (List.length L) c) ∧ FOwn bEnc 1 5 w.heap.size w' (.slice a (List.length L) c) L ∧ (∀ x ∈ L, 0 ≤ x ∧ x ≤ 255) ∧ List.length L ≤ 30 ∧ Src w' cb ad len cap f ∧ w.grownBy w' (some cb) := by
  obtain ⟨i0, hi, hz0, hz1, hz2⟩ := info_parts bInfo
  have D0 : DV w cb ad len cap (w.alloc (Obj.cells #[] 5)) := (DV.start hs).alloc _
  go_enter Tryz.func33, Tryz.ntmps33
  go_wp2
  go_loopw [3, 4] (fun v i wr => ∃ (k : Nat) (P : List Int), k ≤ 4 ∧ P.length ≤ 5 * k ∧ (∀ x ∈ P, 0 ≤ x ∧ x ≤ 255) ∧ i = .int .i64 k ∧ FOwn bEnc 1 5 w.heap.size wr v P ∧ DV w cb ad len cap wr) (fun _ i _ => 4 - (intOf i).toNat)
  case atStart => exact ⟨0, [], by omega, by simp, (fun x h => absurd h (by simp)), rfl, FOwn.empty w, D0⟩
  case round =>
    obtain ⟨k, P, hk, hPl, hPb, rfl, O, D⟩ := hrel
    clear D0
    go_wp2_with fail
    go_at_call 43
    refine (drawBelow (D.src hs) 4 (by decide) (by decide)).mono ?_
    rintro e y1 ⟨x, rfl, x0, x1, s1, g1⟩
    have D1 := D.step s1 g1
    have O1 := O.grown g1 hcb
    clear O D s1 g1
    by_cases hlt : (k : Int) < x
    · obtain ⟨y2z, hy2z⟩ : ∃ y_, y_ = y1.alloc (Obj.cells #[.int .i64 0, .int .i64 1, .int .i64 127, .int .i64 128, .int .i64 300, .int .i64 2147483647] 3) := ⟨_, rfl⟩
      have kz : Below y1.heap.size y1 y2z := by rw [hy2z]; exact below_new _
      have hpk : ∀ i, i < 6 → ∃ y, y2z.cell? ⟨y1.heap.size, i, none⟩ = some (.int .i64 y) ∧ (fun y : Int => 0 ≤ y ∧ y ≤ 2147483647) y := fun i hi => by
        rw [hy2z]
        rcases (by omega : i = 0 ∨ i = 1 ∨ i = 2 ∨ i = 3 ∨ i = 4 ∨ i = 5) with rfl | rfl | rfl | rfl | rfl | rfl
        · exact ⟨(0 : Int), by simp [go_sem], by constructor <;> decide⟩
        · exact ⟨(1 : Int), by simp [go_sem], by constructor <;> decide⟩
        · exact ⟨(127 : Int), by simp [go_sem], by constructor <;> decide⟩
        · exact ⟨(128 : Int), by simp [go_sem], by constructor <;> decide⟩
        · exact ⟨(300 : Int), by simp [go_sem], by constructor <;> decide⟩
        · exact ⟨(2147483647 : Int), by simp [go_sem], by constructor <;> decide⟩
      have D1z := D1.later8 kz
      have hcz : y1.heap.size ≠ cb := by have := D1.cur.lt; omega
      have O1z := O1.later kz
      go_wp2_with fail
      go_at_call 34
      rw [← hy2z]
      clear hy2z kz
      refine (pickIntP (D1z.src hs) (fun y : Int => 0 ≤ y ∧ y ≤ 2147483647) y1.heap.size 6 6 hcz (by decide) (by decide) hpk).mono ?_
      rintro e y2 ⟨n, rfl, hn, s_, g_⟩
      have D1p := D1z.step s_ g_
      have O2 := O1z.grown g_ hcb
      obtain ⟨n0, n1⟩ := hn
      clear O1 O1z D1 D1z s_ g_ hpk hcz
      go_wp2_with fail
      go_at_call 58
      refine (putSpec n y2 (wfM n0 n1)).mono ?_
      rintro e y3 ⟨v3, rfl, o3, k3⟩
      have o3 := bOf o3
      obtain ⟨a3, c3, rfl⟩ := o3.open_
      have D3 := D1p.later8 k3
      have O3 := O2.later k3
      have zl := putZ_len n
      have zb := putZ_bytes n
      have c3n := o3.capn
      have v3 := o3.view.2
      generalize putZ n = X at zl zb v3 ⊢
      have S3 := D3.gr.size
      have ho : ∀ g, u3.ownBlock = some g → w.heap.size ≤ g := fun g e => (O3.lt g e).1
      clear O2 D1p o3 k3
      go_wp2_with (first | (at_builtin; refine fappL bEnc_len bEnc_ones rfl _ _ 22 rfl w.heap.size 5 i0 (.int .u8 0) 1 Tryz.underlying22 hi hz0 hz1 hz2 rfl (by decide) (by decide) _ P rfl ?n0 a3 c3 X rfl c3n ?n1 ?n2 ?n3 ?_))
      case n0 => exact O3
      case n1 => exact v3
      try case n2 => omega
      try case n3 => omega
      intro v4 y4 O4 g4 _
      have D4 : DV w cb ad len cap y4 := ⟨D3.cur.carry (g4.block _ D3.cur.lt (fun e => by have := ho _ e.symm; omega)), grown_row D3.gr g4 ho⟩
      go_wp2
      go_roundw
      case rel => exact ⟨k + 1, P ++ X, by omega, by simp; omega, (fun y hy => by rcases List.mem_append.1 hy with q | q; exact hPb y q; exact zb y q), by go_num, O4, D4⟩
      case measure => simp [intOf]; omega
    · go_wp2_with fail
      go_at_call 39
      refine (drawOnce (D1.src hs) 3 (by decide) (by decide)).mono ?_
      rintro e y2 ⟨o, rfl, s2, g2⟩
      have D2 := D1.step s2 g2
      have O2 := O1.grown g2 hcb
      clear D1 O1 s2 g2
      cases o with
      | false =>
        obtain ⟨aP, cP, rfl⟩ := O2.open_
        go_wp2
        go_ret
        exact ⟨aP, cP, P, rfl, O2, hPb, by omega, D2.src hs, D2.gr⟩
      | true =>
        obtain ⟨y3z, hy3z⟩ : ∃ y_, y_ = y2.alloc (Obj.cells #[.int .i64 0, .int .i64 128, .int .i64 255] 3) := ⟨_, rfl⟩
        have kz : Below y2.heap.size y2 y3z := by rw [hy3z]; exact below_new _
        have hpk : ∀ i, i < 3 → ∃ y, y3z.cell? ⟨y2.heap.size, i, none⟩ = some (.int .i64 y) ∧ (fun y : Int => 0 ≤ y ∧ y ≤ 255) y := fun i hi => by
          rw [hy3z]
          rcases (by omega : i = 0 ∨ i = 1 ∨ i = 2) with rfl | rfl | rfl
          · exact ⟨(0 : Int), by simp [go_sem], by constructor <;> decide⟩
          · exact ⟨(128 : Int), by simp [go_sem], by constructor <;> decide⟩
          · exact ⟨(255 : Int), by simp [go_sem], by constructor <;> decide⟩
        have D2z := D2.later8 kz
        have hcz : y2.heap.size ≠ cb := by have := D2.cur.lt; omega
        have O2z := O2.later kz
        go_wp2_with fail
        go_at_call 34
        rw [← hy3z]
        clear hy3z kz
        refine (pickIntP (D2z.src hs) (fun y : Int => 0 ≤ y ∧ y ≤ 255) y2.heap.size 3 3 hcz (by decide) (by decide) hpk).mono ?_
        rintro e y3 ⟨n, rfl, hn, s_, g_⟩
        have D2p := D2z.step s_ g_
        have O3 := O2z.grown g_ hcb
        obtain ⟨n0, n1⟩ := hn
        clear O2 O2z D2 D2z s_ g_ hpk hcz
        have hwn : IntKind.u8.wrap n = n := by rw [IntKind.wrap_u8]; omega
        go_wp2_with fail
        go_at_call 43
        refine (drawBelow (D2p.src hs) 3 (by decide) (by decide)).mono ?_
        rintro e y4 ⟨m, rfl, m0, m1, s4, g4⟩
        have D4 := D2p.step s4 g4
        have O4 := O3.grown g4 hcb
        clear D2p O3 s4 g4
        have hwm : IntKind.u8.wrap m = m := by rw [IntKind.wrap_u8]; omega
        obtain ⟨y5, hy5⟩ : ∃ y_, y_ = y4.alloc (Obj.cells #[.int .u8 n, .int .u8 m] 5) := ⟨_, rfl⟩
        have V5 : FView bEnc y5 (some ⟨y4.heap.size, 0, none⟩) [n, m] := by
          intro _
          refine ⟨y4.heap.size, 0, rfl, fun j v hv => ?_⟩
          rw [bCells] at hv
          have hj : j < 2 := by simpa using (List.getElem?_eq_some_iff.1 hv).1
          rw [hy5]
          rcases (by omega : j = 0 ∨ j = 1) with rfl | rfl <;> (cases hv; simp [go_sem])
        have k5 : Below y4.heap.size y4 y5 := by rw [hy5]; exact below_new _
        have D5 := D4.later8 k5
        have O5 := O4.later k5
        have S5 := D5.gr.size
        have ho : ∀ g, u3.ownBlock = some g → w.heap.size ≤ g := fun g e => (O5.lt g e).1
        clear D4 O4 k5
        go_wp2_with (first | (at_builtin; refine fappL bEnc_len bEnc_ones rfl _ _ 22 rfl w.heap.size 5 i0 (.int .u8 0) 1 Tryz.underlying22 hi hz0 hz1 hz2 rfl (by decide) (by decide) _ P rfl ?m0 (some ⟨y4.heap.size, 0, none⟩) 2 [n, m] rfl (fun e => by cases e) ?m1 ?m2 ?m3 ?_))
        case m0 => rw [← hy5]; exact O5
        case m1 => rw [← hy5]; exact V5
        try case m2 => simp; omega
        case m3 => rw [← hy5]; exact S5
        rw [← hy5]
        clear hy5
        intro v6 y6 O6 g6 _
        have D6 : DV w cb ad len cap y6 := ⟨D5.cur.carry (g6.block _ D5.cur.lt (fun e => by have := ho _ e.symm; omega)), grown_row D5.gr g6 ho⟩
        obtain ⟨aP, cP, rfl⟩ := O6.open_
        go_wp2
        go_ret
        exact ⟨aP, cP, P ++ [n, m], rfl, O6, (fun y hy => by simp at hy; rcases hy with q | rfl | rfl; exact hPb y q; omega; omega), by simp; omega, D6.src hs, D6.gr⟩
set_option maxHeartbeats 4000000 in
theorem drawLs {cb : Nat} {ad : Option Addr} {len cap : Nat} {f : Nat → Int} (w : World) (hs : Src w cb ad len cap f) (hcb : cb < w.heap.size) : Calls Tryz.prog 38 #[.pointer (some ⟨cb, 0, none⟩)] w fun e w' => ∃ a c L, e = .returned (.slice a (List.length L) c) ∧ FOwn ikEnc 8 27 w.heap.size w' (.slice a (List.length L) c) L ∧ List.length L ≤ 6 ∧ Src w' cb ad len cap f ∧ w.grownBy w' (some cb) := by
  obtain ⟨i0, hi, hz0, hz1, hz2⟩ := info_parts ikInfo
  have D0 : DV w cb ad len cap (w.alloc (Obj.cells #[] 27)) := (DV.start hs).alloc _
  go_enter Tryz.func38, Tryz.ntmps38
  go_wp2
  go_loopw [3, 4] (fun v i wr => ∃ (k : Nat) (P : List Ik), k ≤ 6 ∧ P.length = k ∧ i = .int .i64 k ∧ FOwn ikEnc 8 27 w.heap.size wr v P ∧ DV w cb ad len cap wr) (fun _ i _ => 6 - (intOf i).toNat)
  case atStart => exact ⟨0, [], by omega, rfl, rfl, FOwn.empty w, D0⟩
  case round =>
    obtain ⟨k, P, hk, hPl, rfl, O, D⟩ := hrel
    clear D0
    go_wp2_with fail
    go_at_call 43
    refine (drawBelow (D.src hs) 6 (by decide) (by decide)).mono ?_
    rintro e y1 ⟨x, rfl, x0, x1, s1, g1⟩
    have D1 := D.step s1 g1
    have O1 := O.grown g1 hcb
    clear O D s1 g1
    by_cases hlt : (k : Int) < x
    · go_wp2_with fail
      go_at_call 32
      refine (drawI8 y1 (D1.src hs) D1.cur.lt).mono ?_
      rintro e y2 ⟨xx, rfl, s2, g2⟩
      have D2 := D1.step s2 g2
      have O2 := O1.grown g2 hcb
      clear D1 O1 s2 g2
      obtain ⟨y3, hy3⟩ : ∃ y_, y_ = y2.alloc (Obj.cells #[.int .i64 xx.k, .int .i64 xx.q, .int .i64 xx.r, .int .i64 xx.c, .int .i64 xx.b, .int .i64 xx.p, .int .i64 xx.h, .bool xx.up] 27) := ⟨_, rfl⟩
      have V3 : FView ikEnc y3 (some ⟨y2.heap.size, 0, none⟩) [xx] := by rw [hy3]; exact FView.oneI y2 _ xx
      have k3 : Below y2.heap.size y2 y3 := by rw [hy3]; exact below_new _
      have D3 := D2.later8 k3
      have O3 := O2.later k3
      have S3 := D3.gr.size
      have ho : ∀ g, u3.ownBlock = some g → w.heap.size ≤ g := fun g e => (O3.lt g e).1
      replace hPl : Hid _ := hPl
      clear D2 O2 k3
      go_wp2_with (first | (at_builtin; refine fappL ikEnc_len ikEnc_ones rfl _ _ 34 rfl w.heap.size 27 i0 (.agg #[.int .i64 0, .int .i64 0, .int .i64 0, .int .i64 0, .int .i64 0, .int .i64 0, .int .i64 0, .bool false]) 64 Tryz.underlying34 hi hz0 hz1 hz2 rfl (by decide) (by decide) _ P rfl ?z0 (some ⟨y2.heap.size, 0, none⟩) 1 [xx] rfl (fun e => by cases e) ?z1 ?z2 ?z3 ?_))
      case z0 => rw [← hy3]; exact O3
      case z1 => rw [← hy3]; exact V3
      try case z2 => have := hPl.out; simp; omega
      case z3 => rw [← hy3]; exact S3
      rw [← hy3]
      clear hy3
      intro v4 y4 O4 g4 _
      have D4 : DV w cb ad len cap y4 := ⟨D3.cur.carry (g4.block _ D3.cur.lt (fun e => by have := ho _ e.symm; omega)), grown_row D3.gr g4 ho⟩
      go_wp2
      go_roundw
      case rel => exact ⟨k + 1, P ++ [xx], by omega, by have := hPl.out; simp; omega, by go_num, O4, D4⟩
      case measure => simp [intOf]; omega
    · obtain ⟨aP, cP, rfl⟩ := O1.open_
      have hl6 : P.length ≤ 6 := by omega
      clear hPl
      go_wp2
      go_ret
      exact ⟨aP, cP, P, rfl, O1, hl6, D1.src hs, D1.gr⟩

end Go.Proofs.YtlnogijlfompoaaGreatDoor
namespace Go.Proofs.YtlnogijlfompoaaGreatDoor
open Go.ChangeShapes Go.WideShapes Go.ChangeAt Go.RowKit
open Go.ChangeMaps (open_string shut_string)
set_option linter.unusedVariables false
set_option maxRecDepth 100000

theorem bOk_len4 {id : Int} {L : List Pt} (h : bOk id L = true) : L.length ≤ 4 := (bOk_all h).2.1.2
theorem reactO_len (id : Int) (L : List Pt) (x : Ik) : (reactO id L x).length ≤ 8 := by
  unfold reactO
  split
  · rename_i h
    unfold goes at h
    simp only [Bool.and_eq_true] at h
    have h4 := bOk_len4 h.1
    have h1 := gates_len L (afterL id L x) L.length
    have h2 := told_len id (afterL id L x) L.length
    rw [List.length_append]
    split
    · omega
    · simp; omega
  · simp

end Go.Proofs.YtlnogijlfompoaaGreatDoor
namespace Go.Proofs.YtlnogijlfompoaaGreatDoor
open Go.ChangeShapes Go.WideShapes Go.ChangeAt Go.RowKit
open Go.ChangeMaps (open_string shut_string)
set_option linter.unusedVariables false
set_option maxRecDepth 100000

/-- The numbers of what is said are small. -/
def B8o (x : Ou) : Prop := (-9 ≤ x.pt ∧ x.pt ≤ 200) ∧ (-9 ≤ x.r ∧ x.r ≤ 200) ∧ (-9 ≤ x.c ∧ x.c ≤ 200) ∧ (-9 ≤ x.b ∧ x.b ≤ 200) ∧ (-9 ≤ x.p ∧ x.p ≤ 200) ∧ (-9 ≤ x.h ∧ x.h ≤ 200)
theorem pOk_claim {x : Pt} (h : pOk x = true) (hh : x.has = true) : vOk x.r x.c x.b x.p = true ∧ 0 ≤ x.h ∧ x.h ≤ 8 := by
  simp only [pOk, Bool.and_eq_true] at h
  have hf := h.2.2.2.2
  unfold fitsB at hf
  rw [if_pos hh] at hf
  simp only [Bool.and_eq_true, decide_eq_true_eq] at hf
  exact ⟨hf.2.1, hf.2.2.1⟩
theorem root_bd {id : Int} {M : List Pt} {k : Nat} (h : rootO id M = some k) : (1 ≤ id ∧ id ≤ 9) ∧ (1 ≤ (M.getD k Pt.nil).r ∧ (M.getD k Pt.nil).r ≤ 9) ∧ (0 ≤ (M.getD k Pt.nil).c ∧ (M.getD k Pt.nil).c ≤ 20) ∧ (0 ≤ (M.getD k Pt.nil).h ∧ (M.getD k Pt.nil).h ≤ 8) := by
  obtain ⟨h1, h2, h3⟩ := rootO_some h
  obtain ⟨a1, a2, a3⟩ := bOk_all h1
  have hc : (M.getD k Pt.nil).has = true := by
    simp only [cand, Bool.and_eq_true] at h3
    exact h3.1
  obtain ⟨v1, v2⟩ := pOk_claim (a3 k) hc
  unfold vOk at v1
  simp only [decide_eq_true_eq] at v1
  exact ⟨a1, by omega, by omega, v2⟩
theorem ownR_bd (id : Int) (M : List Pt) (i : Nat) : (-9 ≤ (ownR id M i).1 ∧ (ownR id M i).1 ≤ 200) ∧ (-9 ≤ (ownR id M i).2.1 ∧ (ownR id M i).2.1 ≤ 200) ∧ (-9 ≤ (ownR id M i).2.2.1 ∧ (ownR id M i).2.2.1 ≤ 200) ∧ (-9 ≤ (ownR id M i).2.2.2 ∧ (ownR id M i).2.2.2 ≤ 200) := by
  unfold ownR
  split
  · rename_i h
    simp only [Bool.and_eq_true, decide_eq_true_eq] at h
    obtain ⟨a1, a2, _⟩ := bOk_all h.1
    cases hr : rootO id M with
    | none => simp only; omega
    | some k =>
      have := root_bd hr
      simp only
      omega
  · simp
theorem hopsR_bd (id : Int) (M : List Pt) : -9 ≤ hopsR id M ∧ hopsR id M ≤ 200 := by
  unfold hopsR
  cases hr : rootO id M with
  | none => simp
  | some k => have := root_bd hr; simp only; omega
theorem told_bd (id : Int) (M : List Pt) : ∀ n, n ≤ 4 → ∀ o ∈ toldTo id M n, B8o o
  | 0, _ => by simp [toldTo]
  | n + 1, hn => by
    intro o ho
    simp only [toldTo, List.mem_append] at ho
    rcases ho with h | h
    · exact told_bd id M n (by omega) o h
    · split at h
      · simp only [List.mem_cons, List.not_mem_nil, or_false] at h
        subst h
        have h1 := ownR_bd id M n
        have h2 := hopsR_bd id M
        unfold B8o toldO
        simp only
        omega
      · simp at h
theorem gates_bd (L M : List Pt) : ∀ n, n ≤ 4 → ∀ o ∈ gatesTo L M n, B8o o
  | 0, _ => by simp [gatesTo]
  | n + 1, hn => by
    intro o ho
    simp only [gatesTo, List.mem_append] at ho
    rcases ho with h | h
    · exact gates_bd L M n (by omega) o h
    · split at h
      · cases h
      · simp only [List.mem_cons, List.not_mem_nil, or_false] at h
        subst h
        unfold B8o gateO
        simp only
        omega
theorem reactO_bd (id : Int) (L : List Pt) (x : Ik) : ∀ o ∈ reactO id L x, B8o o := by
  unfold reactO
  split
  · rename_i h
    unfold goes at h
    simp only [Bool.and_eq_true] at h
    have h4 := bOk_len4 h.1
    intro o ho
    rcases List.mem_append.1 ho with q | q
    · exact gates_bd _ _ _ h4 o q
    · split at q
      · exact told_bd _ _ _ h4 o q
      · simp at q
  · intro o ho; cases ho

end Go.Proofs.YtlnogijlfompoaaGreatDoor
