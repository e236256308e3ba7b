/- What is drawn of a code: what comes in, lists. What is drawn of a code: bytes and a place. What is drawn of a code: what is said. -/
import Derived.Test.YthgcbihhdbpbdaaGreatDoorRows
import Derived.WalkKit
import Derived.ProofKit
import Derived.OpenShut
import Derived.ShutString
import Derived.ChangeOld
import Derived.Below
import Derived.Deep.QuietTactic
import Derived.BigQuiet
import Derived.WalkSmall
import Derived.Laws.OwnMore
import Derived.WalkSpells
import Derived.WalkLawsBesides
import Derived.Deep.Cut
import Derived.Maps.AppendAt
import Derived.Test.YthgcbihhdbpbdaaGreatDoorM8
import Derived.Test.YthgcbihhdbpbdaaGreatDoorKNd1b
import Derived.Test.YthgcbihhdbpbdaaGreatDoorM11
import Derived.Test.YthgcbihhdbpbdaaGreatDoorKDent
import Derived.Test.YthgcbihhdbpbdaaGreatDoorM12
import Derived.Test.YthgcbihhdbpbdaaGreatDoorKBDraw2
namespace Go.Proofs.YthgcbihhdbpbdaaGreatDoor
open Go.ChangeShapes Go.WideShapes Go.ChangeAt Go.RowKit
open Go.ChangeMaps (open_string shut_string)
set_option linter.unusedVariables false
set_option maxRecDepth 100000

theorem fview_ne_cur {w : World} {cb : Nat} {ad : Option Addr} {len cap : Nat} {a : Option Addr} {L : List Int} (hc : Cur w cb ad len cap) (hv : FView bEnc w a L) : ∀ x, a = some x → 0 < L.length → x.block ≠ cb := by
  intro x e hp h
  obtain ⟨b, off, e2, hcell⟩ := bV hv hp
  rw [e2] at e
  cases e
  have h0 := hcell 0 hp
  simp only at h
  subst h
  obtain ⟨i, hh, _, _, hq⟩ := hc
  rcases off with _ | _ | _ | off <;> simp [World.cell?, hq] at h0
theorem FOwn.capge {X : Type} {enc : X → List Value} {n : Nat} {T : TypeId} {base : Nat} {w : World} {ad : Option Addr} {cap : Nat} {L : List X} (h : FOwn enc n T base w (.slice ad L.length cap) L) : L.length ≤ cap ∧ cap ≤ maxLen := by
  rcases h.2 with ⟨q, e⟩ | ⟨g, c, cur, q, _, _, hc, hm, _⟩
  · simp only [Value.slice.injEq] at q
    obtain ⟨_, q2, q3⟩ := q
    exact ⟨by omega, by rw [q3]; exact Nat.zero_le _⟩
  · simp only [Value.slice.injEq] at q
    obtain ⟨_, q2, q3⟩ := q
    rw [q3]
    exact ⟨hc, hm⟩
theorem allB_bd (A : List Ik) : ∀ y ∈ allB A, 0 ≤ y ∧ y ≤ 255 := by
  intro y hy
  unfold allB at hy
  obtain ⟨l, hl, hy⟩ := List.mem_flatten.1 hy
  obtain ⟨x, _, rfl⟩ := List.mem_map.1 hl
  exact inBy_bd x y hy
set_option maxHeartbeats 4000000 in
theorem dIB (ad : Option Addr) (len cap : Nat) (f : Nat → Int) (w : World) (h : Code0 w ad len f) :
    Calls Tryz.prog 6 #[.slice ad len cap] w fun e w' => ∃ x : Ik, e = .returned (.agg #[.int .i64 x.k, .int .i64 x.q, .int .i64 x.r, .int .i64 x.c, .int .i64 x.b, .int .i64 x.p, .int .i64 x.h, .bool x.up]) ∧ B8 x ∧ Below w.heap.size w w' := by
  obtain ⟨R, hRe⟩ : ∃ R, R = w.heap.size := ⟨_, rfl⟩
  have hR : w.heap.size ≤ R := by omega
  obtain ⟨x0, hx0⟩ : ∃ y_, y_ = w.alloc (Obj.cells #[.int .i64 0, .int .i64 0, .int .i64 0, .int .i64 0, .int .i64 0, .int .i64 0, .int .i64 0, .bool false] 27) := ⟨_, rfl⟩
  have B0 : Below w.heap.size w x0 := by rw [hx0]; exact below_new _
  have R0 : IBox x0 R ⟨0, 0, 0, 0, 0, 0, 0, false⟩ := by rw [hx0, hRe]; exact ⟨InAt.new w _ ⟨0, 0, 0, 0, 0, 0, 0, false⟩, fun i => by simp [go_sem]⟩
  have h0 := h.later B0 (Nat.le_refl _)
  go_enter Tryz.func6, Tryz.ntmps6
  go_wp2_with fail
  go_at_call 39
  rw [← hx0, ← hRe]
  clear hx0 hRe
  refine (drawNew ad len cap f x0 h0.view h0.lt h0.small h0.bytes).mono ?_
  rintro e y1 ⟨rfl, s1, b1, z1⟩
  have R1 : IBox y1 R _ := R0.keep (b1.block _ R0.at_.lt)
  have B1 := B0.trans (b1.mono B0.size)
  have hc1 : x0.heap.size < y1.heap.size := s1.cur.lt
  have hRl := R0.at_.lt
  obtain ⟨cb, hcb⟩ : ∃ cb, cb = x0.heap.size := ⟨_, rfl⟩
  rw [← hcb] at s1 hc1 hRl ⊢
  have hbR : w.heap.size ≤ cb := by rw [hcb]; exact B0.size
  have hRc : R ≠ cb := by omega
  clear R0 z1 hcb b1
  go_wp2_with fail
  go_at_call 38
  refine (drawBt y1 s1 hc1).mono ?_
  rintro e y2 ⟨x, rfl, s2, g2, b8⟩
  have R2 := R1.grown g2 hRc
  have B2 : Below w.heap.size w y2 := B1.grown g2 B1.size (fun k e => by simp at e; omega)
  clear R1 s1 g2 B1
  obtain ⟨⟨r0, r1, r2, r3, r4, r5, r6, r7⟩, rf⟩ := R2
  have f0 := rf 0
  have f1 := rf 1
  have f2 := rf 2
  have f3 := rf 3
  have f4 := rf 4
  have f5 := rf 5
  have f6 := rf 6
  have f7 := rf 7
  go_wp2
  refine bodyPost_ret (v := .agg #[.int .i64 x.k, .int .i64 x.q, .int .i64 x.r, .int .i64 x.c, .int .i64 x.b, .int .i64 x.p, .int .i64 x.h, .bool x.up]) (by simp [results, Tryz.results6, go_sem, *]) rfl ⟨x, rfl, b8, ?_⟩
  exact (((((((B2.setCell (p := ⟨R, 0, none⟩) hR _).setCell (p := ⟨R, 1, none⟩) hR _).setCell (p := ⟨R, 2, none⟩) hR _).setCell (p := ⟨R, 3, none⟩) hR _).setCell (p := ⟨R, 4, none⟩) hR _).setCell (p := ⟨R, 5, none⟩) hR _).setCell (p := ⟨R, 6, none⟩) hR _).setCell (p := ⟨R, 7, none⟩) hR _
set_option maxHeartbeats 4000000 in
theorem dIT (ad : Option Addr) (len cap : Nat) (f : Nat → Int) (w : World) (h : Code0 w ad len f) :
    Calls Tryz.prog 16 #[.slice ad len cap] w fun e w' => ∃ x : Ik, e = .returned (.agg #[.int .i64 x.k, .int .i64 x.q, .int .i64 x.r, .int .i64 x.c, .int .i64 x.b, .int .i64 x.p, .int .i64 x.h, .bool x.up]) ∧ B8 x ∧ Below w.heap.size w w' := by
  obtain ⟨R, hRe⟩ : ∃ R, R = w.heap.size := ⟨_, rfl⟩
  have hR : w.heap.size ≤ R := by omega
  obtain ⟨x0, hx0⟩ : ∃ y_, y_ = w.alloc (Obj.cells #[.int .i64 0, .int .i64 0, .int .i64 0, .int .i64 0, .int .i64 0, .int .i64 0, .int .i64 0, .bool false] 27) := ⟨_, rfl⟩
  have B0 : Below w.heap.size w x0 := by rw [hx0]; exact below_new _
  have R0 : IBox x0 R ⟨0, 0, 0, 0, 0, 0, 0, false⟩ := by rw [hx0, hRe]; exact ⟨InAt.new w _ ⟨0, 0, 0, 0, 0, 0, 0, false⟩, fun i => by simp [go_sem]⟩
  have h0 := h.later B0 (Nat.le_refl _)
  go_enter Tryz.func16, Tryz.ntmps16
  go_wp2_with fail
  go_at_call 39
  rw [← hx0, ← hRe]
  clear hx0 hRe
  refine (drawNew ad len cap f x0 h0.view h0.lt h0.small h0.bytes).mono ?_
  rintro e y1 ⟨rfl, s1, b1, z1⟩
  have R1 : IBox y1 R _ := R0.keep (b1.block _ R0.at_.lt)
  have B1 := B0.trans (b1.mono B0.size)
  have hc1 : x0.heap.size < y1.heap.size := s1.cur.lt
  have hRl := R0.at_.lt
  obtain ⟨cb, hcb⟩ : ∃ cb, cb = x0.heap.size := ⟨_, rfl⟩
  rw [← hcb] at s1 hc1 hRl ⊢
  have hbR : w.heap.size ≤ cb := by rw [hcb]; exact B0.size
  have hRc : R ≠ cb := by omega
  clear R0 z1 hcb b1
  go_wp2_with fail
  go_at_call 38
  refine (drawBt y1 s1 hc1).mono ?_
  rintro e y2 ⟨x, rfl, s2, g2, b8⟩
  have R2 := R1.grown g2 hRc
  have B2 : Below w.heap.size w y2 := B1.grown g2 B1.size (fun k e => by simp at e; omega)
  clear R1 s1 g2 B1
  obtain ⟨⟨r0, r1, r2, r3, r4, r5, r6, r7⟩, rf⟩ := R2
  have f0 := rf 0
  have f1 := rf 1
  have f2 := rf 2
  have f3 := rf 3
  have f4 := rf 4
  have f5 := rf 5
  have f6 := rf 6
  have f7 := rf 7
  go_wp2
  refine bodyPost_ret (v := .agg #[.int .i64 x.k, .int .i64 x.q, .int .i64 x.r, .int .i64 x.c, .int .i64 x.b, .int .i64 x.p, .int .i64 x.h, .bool x.up]) (by simp [results, Tryz.results16, go_sem, *]) rfl ⟨x, rfl, b8, ?_⟩
  exact (((((((B2.setCell (p := ⟨R, 0, none⟩) hR _).setCell (p := ⟨R, 1, none⟩) hR _).setCell (p := ⟨R, 2, none⟩) hR _).setCell (p := ⟨R, 3, none⟩) hR _).setCell (p := ⟨R, 4, none⟩) hR _).setCell (p := ⟨R, 5, none⟩) hR _).setCell (p := ⟨R, 6, none⟩) hR _).setCell (p := ⟨R, 7, none⟩) hR _
set_option maxHeartbeats 4000000 in
theorem dAB (ad : Option Addr) (len cap : Nat) (f : Nat → Int) (w : World) (h : Code0 w ad len f) :
    Calls Tryz.prog 11 #[.slice ad len cap] w fun e w' => ∃ a c L, e = .returned (.slice a (List.length L) c) ∧ FOwn ikEnc 8 27 w.heap.size w' (.slice a (List.length L) c) L ∧ List.length L ≤ 7 ∧ Below w.heap.size w w' := by
  obtain ⟨i0, hi, hz0, hz1, hz2⟩ := info_parts ikInfo
  go_enter Tryz.func11, Tryz.ntmps11
  go_wp2_with fail
  go_at_call 39
  refine (drawNew ad len cap f w h.view h.lt h.small h.bytes).mono ?_
  rintro e y1 ⟨rfl, s1, b1, z1⟩
  have hc1 : w.heap.size < y1.heap.size := s1.cur.lt
  obtain ⟨cb, hcb⟩ : ∃ cb, cb = w.heap.size := ⟨_, rfl⟩
  rw [← hcb] at s1 hc1 ⊢
  have hbR : w.heap.size ≤ cb := by omega
  clear z1 hcb
  go_wp2_with fail
  go_at_call 51
  refine (drawLs y1 s1 hc1).mono ?_
  rintro e y2 ⟨a2, c2, P, rfl, O2, hl, s2, g2⟩
  have B2 : Below w.heap.size w y2 := b1.grown g2 b1.size (fun k e => by simp at e; omega)
  have S12 := g2.size
  clear s1 g2
  go_wp2_with fail
  go_at_call 52
  refine (drawOnce s2 5 (by decide) (by decide)).mono ?_
  rintro e y3 ⟨o, rfl, s3, g3⟩
  have B3 : Below w.heap.size w y3 := B2.grown g3 B2.size (fun k e => by simp at e; omega)
  have O3 := O2.grown g3 hc1
  have S23 := g3.size
  clear s2 g3 O2 B2
  cases o with
  | false =>
    go_wp2
    go_ret
    exact ⟨a2, c2, P, rfl, O3.base b1.size, by omega, B3⟩
  | true =>
    go_wp2_with fail
    go_at_call 38
    refine (drawBt y3 s3 s3.cur.lt).mono ?_
    rintro e y4 ⟨xx, rfl, s4, g4, _⟩
    have B4 : Below w.heap.size w y4 := B3.grown g4 B3.size (fun k e => by simp at e; omega)
    have O4 := O3.grown g4 hc1
    have S34 := g4.size
    clear s3 g4 O3 B3
    obtain ⟨y5, hy5⟩ : ∃ y_, y_ = y4.alloc (Obj.cells #[.int .i64 xx.k, .int .i64 xx.q, .int .i64 xx.r, .int .i64 xx.c, .int .i64 xx.b, .int .i64 xx.p, .int .i64 xx.h, .bool xx.up] 27) := ⟨_, rfl⟩
    have V5 : FView ikEnc y5 (some ⟨y4.heap.size, 0, none⟩) [xx] := by rw [hy5]; exact FView.oneI y4 _ xx
    have k5 : Below y4.heap.size y4 y5 := by rw [hy5]; exact below_new _
    have O5 := (O4.later k5).base b1.size
    have B5 := B4.trans (k5.mono B4.size)
    have S5 := B5.size
    clear O4 B4 k5
    go_wp2_with (first | (at_builtin; refine fappL ikEnc_len ikEnc_ones rfl _ _ 34 rfl w.heap.size 27 i0 (.agg #[.int .i64 0, .int .i64 0, .int .i64 0, .int .i64 0, .int .i64 0, .int .i64 0, .int .i64 0, .bool false]) 64 Tryz.underlying34 hi hz0 hz1 hz2 rfl (by decide) (by decide) _ P rfl ?z0 (some ⟨y4.heap.size, 0, none⟩) 1 [xx] rfl (fun e => by cases e) ?z1 ?z2 ?z3 ?_))
    case z0 => rw [← hy5]; exact O5
    case z1 => rw [← hy5]; exact V5
    try case z2 => simp; omega
    case z3 => rw [← hy5]; exact S5
    rw [← hy5]
    clear hy5
    intro v6 y6 O6 g6 _
    have B6 : Below w.heap.size w y6 := B5.grown g6 S5 (fun g e => (O5.lt g e).1)
    obtain ⟨a6, c6, rfl⟩ := O6.open_
    go_wp2
    go_ret
    exact ⟨a6, c6, P ++ [xx], rfl, O6, by simp; omega, B6⟩
set_option maxHeartbeats 4000000 in
theorem dAO (ad : Option Addr) (len cap : Nat) (f : Nat → Int) (w : World) (h : Code0 w ad len f) :
    Calls Tryz.prog 13 #[.slice ad len cap] w fun e w' => ∃ a c L, e = .returned (.slice a (List.length L) c) ∧ FView bEnc w' a L ∧ (∀ x ∈ L, 0 ≤ x ∧ x ≤ 255) ∧ List.length L ≤ 1000 ∧ List.length L ≤ c ∧ Below w.heap.size w w' := by
  go_enter Tryz.func13, Tryz.ntmps13
  go_wp2_with fail
  go_at_call 39
  refine (drawNew ad len cap f w h.view h.lt h.small h.bytes).mono ?_
  rintro e y1 ⟨rfl, s1, b1, z1⟩
  have hc1 : w.heap.size < y1.heap.size := s1.cur.lt
  obtain ⟨cb, hcb⟩ : ∃ cb, cb = w.heap.size := ⟨_, rfl⟩
  rw [← hcb] at s1 hc1 ⊢
  have hbR : w.heap.size ≤ cb := by omega
  clear z1 hcb
  go_wp2_with fail
  go_at_call 51
  refine (drawLs y1 s1 hc1).mono ?_
  rintro e y2 ⟨a2, c2, P, rfl, O2, hl, s2, g2⟩
  have B2 : Below w.heap.size w y2 := b1.grown g2 b1.size (fun k e => by simp at e; omega)
  have S12 := g2.size
  clear s1 g2
  go_wp2_with fail
  go_at_call 19
  refine (allBSn a2 c2 P y2 O2.view.2 (by omega)).mono ?_
  rintro e y3 ⟨a3, c3, rfl, O3, k3, hsm⟩
  have B3 := B2.trans (k3.mono B2.size)
  have s3 := s2.later k3
  have hlen := allB_len P
  have hbd := allB_bd P
  generalize hM : allB P = M at O3 hlen hbd ⊢
  have S23 := k3.size
  obtain ⟨⟨bb, off, sp⟩, rfl⟩ : ∃ x, a3 = some x := Option.ne_none_iff_exists'.1 hsm
  obtain ⟨rfl, rfl⟩ : off = 0 ∧ sp = none := by
    rcases O3.2 with ⟨q, _⟩ | ⟨g, c, cur, q, _⟩
    · cases q
    · simp only [Value.slice.injEq, Option.some.injEq, Addr.mk.injEq] at q; exact ⟨q.1.2.1, q.1.2.2⟩
  have hbl := O3.lt bb rfl
  have hcg := O3.capge
  have hv3 := bV O3.view.2
  have hcl : cb < y2.heap.size := by omega
  clear hM hsm O2
  go_wp2_with fail
  go_at_call 44
  refine (dent bb 0 M.length c3 M y3 s3 (by omega) (fun x e hp => by have := h.lt x e hp; have := B3.size; omega) (show Hid _ from rfl) hv3 (by omega) hbd (by omega) hcg.1 hcg.2).mono ?_
  rintro e y4 ⟨L', aX, cX, rfl, vX, bX, lX, gX, _, _, g4⟩
  have B4 : Below w.heap.size w y4 := B3.grown g4 B3.size (fun k e => by simp at e; omega)
  go_wp2
  go_ret
  exact ⟨aX, cX, L', rfl, bVof vX, bX, lX, gX, B4⟩

end Go.Proofs.YthgcbihhdbpbdaaGreatDoor
namespace Go.Proofs.YthgcbihhdbpbdaaGreatDoor
open Go.ChangeShapes Go.WideShapes Go.ChangeAt Go.RowKit
open Go.ChangeMaps (open_string shut_string)
set_option linter.unusedVariables false
set_option maxRecDepth 100000

set_option maxHeartbeats 8000000 in
theorem dIO (ad : Option Addr) (len cap : Nat) (f : Nat → Int) (w : World) (h : Code0 w ad len f) :
    Calls Tryz.prog 8 #[.slice ad len cap] w fun e w' => ∃ a c L k, e = .returned (.tuple #[.slice a (List.length L) c, .int .i64 k]) ∧ FView bEnc w' a L ∧ (∀ x ∈ L, 0 ≤ x ∧ x ≤ 255) ∧ List.length L ≤ 1000 ∧ List.length L ≤ c ∧ (-9223372036854775808 ≤ k ∧ k ≤ 9223372036854775807) ∧ Below w.heap.size w w' := by
  obtain ⟨i0, hi, hz0, hz1, hz2⟩ := info_parts bInfo
  go_enter Tryz.func8, Tryz.ntmps8
  go_wp2_with fail
  go_at_call 39
  refine (drawNew ad len cap f w h.view h.lt h.small h.bytes).mono ?_
  rintro e y1 ⟨rfl, s1, b1, z1⟩
  have hc1 : w.heap.size < y1.heap.size := s1.cur.lt
  obtain ⟨cb, hcb⟩ : ∃ cb, cb = w.heap.size := ⟨_, rfl⟩
  rw [← hcb] at s1 hc1 ⊢
  have hbR : w.heap.size ≤ cb := by omega
  clear z1 hcb
  go_wp2_with fail
  go_at_call 45
  refine (drawI8 y1 s1 hc1).mono ?_
  rintro e y2 ⟨xx, rfl, s2, g2⟩
  have B2 : Below w.heap.size w y2 := b1.grown g2 b1.size (fun k e => by simp at e; omega)
  have S12 := g2.size
  clear s1 g2
  go_wp2_with fail
  go_at_call 18
  refine (inBSn xx y2).mono ?_
  rintro e y3 ⟨a3, c3, rfl, O3, k3, hsm⟩
  have B3 := B2.trans (k3.mono B2.size)
  have s3 := s2.later k3
  have hlen := inBy_len xx
  have hbd := inBy_bd xx
  generalize inBy xx = M at O3 hlen hbd ⊢
  have S23 := k3.size
  clear B2 s2 k3
  go_wp2_with fail
  go_at_call 46
  refine (drawNm y3 s3 s3.cur.lt).mono ?_
  rintro e y4 ⟨a4, c4, N, rfl, O4, nb, nl, s4, g4⟩
  have B4 : Below w.heap.size w y4 := B3.grown g4 B3.size (fun k e => by simp at e; omega)
  have O3 := O3.grown g4 (by omega)
  have S34 := g4.size
  have V4 := O4.view.2
  have C4 := O4.capn
  have ho : ∀ g, (Value.slice a3 M.length c3).ownBlock = some g → y2.heap.size ≤ g ∧ g < y4.heap.size := fun g e => O3.lt g e
  clear g4 s3 B3
  go_wp2_with (first | (at_builtin; refine fappL bEnc_len bEnc_ones rfl _ _ 22 rfl y2.heap.size 5 i0 (.int .u8 0) 1 Tryz.underlying22 hi hz0 hz1 hz2 rfl (by decide) (by decide) _ M rfl O3 a4 c4 N rfl C4 V4 ?n2 ?n3 ?_))
  try case n2 => omega
  try case n3 => omega
  intro v5 y5 O5 g5 e5
  have B5 : Below w.heap.size w y5 := B4.grown g5 B4.size (fun g e => by have := ho g e; omega)
  have hsm5 : v5.ownBlock ≠ none := by
    rcases e5 with e | e
    · rw [e]; cases a3 with
      | none => exact absurd rfl hsm
      | some q => simp [Value.ownBlock]
    · rw [e]; simp
  have s5 : Src y5 cb ad len cap f := s4.move (g5.block _ s4.cur.lt (fun e => by have := ho _ e.symm; omega)) (fun x e hp => g5.block _ (by have := h.lt x e hp; have := B4.size; omega) (fun e2 => by have := ho _ e2.symm; have := h.lt x e hp; have := B4.size; omega))
  have hMl : (M ++ N).length ≤ 41 := by simp; omega
  have hMb : ∀ x ∈ M ++ N, 0 ≤ x ∧ x ≤ 255 := fun x hx => by rcases List.mem_append.1 hx with q | q; exact hbd x q; exact nb x q
  have S45 := g5.size
  obtain ⟨W, hW⟩ : ∃ W, M ++ N = W := ⟨_, rfl⟩
  rw [hW] at O5 hMl hMb
  obtain ⟨a5, c5, rfl⟩ := O5.open_
  obtain ⟨⟨bb, off, sp⟩, rfl⟩ : ∃ x, a5 = some x := by
    cases a5 with
    | none => exact absurd rfl hsm5
    | some q => exact ⟨q, rfl⟩
  obtain ⟨rfl, rfl⟩ : off = 0 ∧ sp = none := by
    rcases O5.2 with ⟨q, _⟩ | ⟨g, c, cur, q, _⟩
    · cases q
    · simp only [Value.slice.injEq, Option.some.injEq, Addr.mk.injEq] at q; exact ⟨q.1.2.1, q.1.2.2⟩
  have hbl := O5.lt bb rfl
  have hcg := O5.capge
  have hv5 := bV O5.view.2
  clear hW hsm5 e5 g5 O3 O4 V4 C4 s4 B4 hbd hlen nb nl hsm
  go_wp2_with fail
  go_at_call 44
  refine (dent bb 0 W.length c5 W y5 s5 (by omega) (fun x e hp => by have := h.lt x e hp; have := B5.size; omega) (show Hid _ from rfl) hv5 (by omega) hMb (by omega) hcg.1 hcg.2).mono ?_
  rintro e y6 ⟨L', aX, cX, rfl, vX, bX, lX, gX, _, s6, g6⟩
  have B6 : Below w.heap.size w y6 := B5.grown g6 B5.size (fun k e => by simp at e; omega)
  have vX := bVof vX
  have S56 := g6.size
  clear B5 s5 g6 O5 hv5
  obtain ⟨y7, hy7⟩ : ∃ y_, y_ = y6.alloc (Obj.cells #[.int .i64 0, .int .i64 0, .int .i64 0, .int .i64 1, .int .i64 (L'.length : Int), .int .i64 (-1), .int .i64 9223372036854775807] 3) := ⟨_, rfl⟩
  have k7 : Below y6.heap.size y6 y7 := by rw [hy7]; exact below_new _
  have hpk : ∀ i, i < 7 → ∃ y, y7.cell? ⟨y6.heap.size, i, none⟩ = some (.int .i64 y) ∧ (fun y : Int => -9223372036854775808 ≤ y ∧ y ≤ 9223372036854775807) y := fun i hi => by
    rw [hy7]
    rcases (by omega : i = 0 ∨ i = 1 ∨ i = 2 ∨ i = 3 ∨ i = 4 ∨ i = 5 ∨ i = 6) with rfl | rfl | rfl | rfl | rfl | rfl | rfl
    · exact ⟨0, by simp [go_sem], by constructor <;> decide⟩
    · exact ⟨0, by simp [go_sem], by constructor <;> decide⟩
    · exact ⟨0, by simp [go_sem], by constructor <;> decide⟩
    · exact ⟨1, by simp [go_sem], by constructor <;> decide⟩
    · exact ⟨(L'.length : Int), by simp [go_sem], by constructor <;> omega⟩
    · exact ⟨-1, by simp [go_sem], by constructor <;> decide⟩
    · exact ⟨9223372036854775807, by simp [go_sem], by constructor <;> decide⟩
  have s7 := s6.later k7
  have hcur6 := s6.cur
  have vX6 := vX
  have B7 := B6.trans (k7.mono B6.size)
  have vX7 := vX.below k7 (vX.lt bEnc_len (by omega))
  have hcl6 := s6.cur.lt
  go_wp2_with fail
  go_at_call 47
  rw [← hy7]
  clear hy7 k7 vX B6 s6
  refine (pickIntP s7 (fun y : Int => -9223372036854775808 ≤ y ∧ y ≤ 9223372036854775807) y6.heap.size 7 7 (by omega) (by decide) (by decide) hpk).mono ?_
  rintro e y8 ⟨kk, rfl, hk, s8, g8⟩
  have B8' : Below w.heap.size w y8 := B7.grown g8 B7.size (fun k e => by simp at e; omega)
  have hvb : ∀ x, aX = some x → 0 < L'.length → x.block ≠ cb := fview_ne_cur hcur6 vX6
  have vX8 := vX7.carry (fun x e hp => g8.block _ (vX7.lt bEnc_len (by omega) x e hp) (by have := hvb x e hp; simp; omega))
  go_wp2
  go_ret2
  exact ⟨aX, cX, L', kk, rfl, vX8, bX, lX, gX, hk, B8'⟩

end Go.Proofs.YthgcbihhdbpbdaaGreatDoor
namespace Go.Proofs.YthgcbihhdbpbdaaGreatDoor
open Go.ChangeShapes Go.WideShapes Go.ChangeAt Go.RowKit
open Go.ChangeMaps (open_string shut_string)
set_option linter.unusedVariables false
set_option maxRecDepth 100000

theorem ouAt_of {w : World} {b o : Nat} {x : Ou} (h : OuAtO w b o x) : True := trivial
set_option maxHeartbeats 8000000 in
theorem dOT (ad : Option Addr) (len cap : Nat) (f : Nat → Int) (w : World) (h : Code0 w ad len f) :
    Calls Tryz.prog 17 #[.slice ad len cap] w fun e w' => ∃ x : Ik, e = .returned (.agg #[.int .i64 x.k, .int .i64 x.q, .int .i64 x.r, .int .i64 x.c, .int .i64 x.b, .int .i64 x.p, .int .i64 x.h, .bool x.up]) ∧ B8 x ∧ Below w.heap.size w w' := by
  obtain ⟨R, hRe⟩ : ∃ R, R = w.heap.size := ⟨_, rfl⟩
  have hR : w.heap.size ≤ R := by omega
  obtain ⟨x0, hx0⟩ : ∃ y_, y_ = w.alloc (Obj.cells #[.int .i64 0, .int .i64 0, .int .i64 0, .int .i64 0, .int .i64 0, .int .i64 0, .int .i64 0, .bool false] 41) := ⟨_, rfl⟩
  have B0 : Below w.heap.size w x0 := by rw [hx0]; exact below_new _
  have R0 : IBox x0 R ⟨0, 0, 0, 0, 0, 0, 0, false⟩ := by rw [hx0, hRe]; exact ⟨InAt.new w _ ⟨0, 0, 0, 0, 0, 0, 0, false⟩, fun i => by simp [go_sem]⟩
  have h0 := h.later B0 (Nat.le_refl _)
  go_enter Tryz.func17, Tryz.ntmps17
  go_wp2_with fail
  go_at_call 39
  rw [← hx0, ← hRe]
  clear hx0 hRe
  refine (drawNew ad len cap f x0 h0.view h0.lt h0.small h0.bytes).mono ?_
  rintro e y1 ⟨rfl, s1, b1, z1⟩
  have R1 : IBox y1 R _ := R0.keep (b1.block _ R0.at_.lt)
  have B1 := B0.trans (b1.mono B0.size)
  have hc1 : x0.heap.size < y1.heap.size := s1.cur.lt
  have hRl := R0.at_.lt
  obtain ⟨cb, hcb⟩ : ∃ cb, cb = x0.heap.size := ⟨_, rfl⟩
  rw [← hcb] at s1 hc1 hRl ⊢
  have hbR : w.heap.size ≤ cb := by rw [hcb]; exact B0.size
  have hRc : R ≠ cb := by omega
  clear R0 z1 hcb b1
  go_wp2_with fail
  go_at_call 55
  refine (drawR8 y1 s1 hc1).mono ?_
  rintro e y2 ⟨id, a2, c2, L, rfl, hL, O2, s2, g2⟩
  have R2 := R1.grown g2 hRc
  have B2 : Below w.heap.size w y2 := B1.grown g2 B1.size (fun k e => by simp at e; omega)
  have S12 := g2.size
  clear R1 s1 g2 B1
  go_wp2_with fail
  go_at_call 54
  refine (reactS id a2 c2 L ⟨2, 0, 0, 0, 0, 0, 0, false⟩ y2 O2.view.2 (by omega) O2.capn).mono ?_
  rintro e y3 ⟨a3, c3, ao, co, rfl, _, O3, _, k3⟩
  have hOb := reactO_bd id L ⟨2, 0, 0, 0, 0, 0, 0, false⟩
  have hOl := reactO_len id L ⟨2, 0, 0, 0, 0, 0, 0, false⟩
  generalize reactO id L ⟨2, 0, 0, 0, 0, 0, 0, false⟩ = OO at O3 hOb hOl ⊢
  generalize (reactL id L ⟨2, 0, 0, 0, 0, 0, 0, false⟩).length = nL
  have R3 : IBox y3 R _ := R2.keep (k3.block _ R2.at_.lt)
  have B3 := B2.trans (k3.mono B2.size)
  have s3 := s2.later k3
  have S23 := k3.size
  clear R2 B2 s2 k3 O2
  obtain ⟨y4, hy4⟩ : ∃ y_, y_ = y3.alloc (Obj.cells #[.int .i64 id, .slice a3 nL c3] 51) := ⟨_, rfl⟩
  have k4 : Below y3.heap.size y3 y4 := by rw [hy4]; exact below_new _
  have R4 : IBox y4 R _ := R3.keep (k4.block _ R3.at_.lt)
  have B4 := B3.trans (k4.mono B3.size)
  have s4 := s3.later k4
  have O4 := O3.later k4
  have hcl := s4.cur.lt
  go_upto_region 3 with fail
  rw [← hy4]
  clear hy4 k4 R3 B3 s3 O3
  by_cases hz : OO.length = 0
  · have hz1 : ((OO.length : Int) == 0) = true := by rw [hz]; rfl
    go_wp2_with fail
    go_at_call 56
    refine (drawBelow s4 4 (by decide) (by decide)).mono ?_
    rintro e y5 ⟨n, rfl, n0, n1, s5, g5⟩
    have R5 := R4.grown g5 hRc
    have B5 : Below w.heap.size w y5 := B4.grown g5 B4.size (fun k e => by simp at e; omega)
    clear R4 B4 s4 g5
    obtain ⟨⟨r0, r1, r2, r3, r4, r5, r6, r7⟩, rf⟩ := R5
    have f0 := rf 0
    have f1 := rf 1
    have f2 := rf 2
    have f3 := rf 3
    have f4 := rf 4
    have f5 := rf 5
    have f6 := rf 6
    have f7 := rf 7
    go_wp2
    refine bodyPost_ret (v := .agg #[.int .i64 n, .int .i64 1, .int .i64 0, .int .i64 0, .int .i64 0, .int .i64 0, .int .i64 0, .bool true]) (by simp [results, Tryz.results17, go_sem, *]) rfl ⟨⟨n, 1, 0, 0, 0, 0, 0, true⟩, rfl, by unfold B8; simp, ?_⟩
    exact (((((((B5.setCell (p := ⟨R, 0, none⟩) hR _).setCell (p := ⟨R, 1, none⟩) hR _).setCell (p := ⟨R, 2, none⟩) hR _).setCell (p := ⟨R, 3, none⟩) hR _).setCell (p := ⟨R, 4, none⟩) hR _).setCell (p := ⟨R, 5, none⟩) hR _).setCell (p := ⟨R, 6, none⟩) hR _).setCell (p := ⟨R, 7, none⟩) hR _
  · have hz1 : ((OO.length : Int) == 0) = false := by rw [beq_eq_false_iff_ne]; omega
    go_wp2_with fail
    go_at_call 52
    refine (drawOnce s4 4 (by decide) (by decide)).mono ?_
    rintro e y5 ⟨on, rfl, s5, g5⟩
    have R5 := R4.grown g5 hRc
    have B5 : Below w.heap.size w y5 := B4.grown g5 B4.size (fun k e => by simp at e; omega)
    have O5 := O4.grown g5 (by omega)
    have S45 := g5.size
    clear R4 B4 s4 g5 O4
    cases on with
    | true =>
      go_wp2_with fail
      go_at_call 56
      refine (drawBelow s5 4 (by decide) (by decide)).mono ?_
      rintro e y6 ⟨n, rfl, n0, n1, s6, g6⟩
      have R6 := R5.grown g6 hRc
      have B6 : Below w.heap.size w y6 := B5.grown g6 B5.size (fun k e => by simp at e; omega)
      clear R5 B5 s5 g6
      obtain ⟨⟨r0, r1, r2, r3, r4, r5, r6, r7⟩, rf⟩ := R6
      have f0 := rf 0
      have f1 := rf 1
      have f2 := rf 2
      have f3 := rf 3
      have f4 := rf 4
      have f5 := rf 5
      have f6 := rf 6
      have f7 := rf 7
      go_wp2
      refine bodyPost_ret (v := .agg #[.int .i64 n, .int .i64 1, .int .i64 0, .int .i64 0, .int .i64 0, .int .i64 0, .int .i64 0, .bool true]) (by simp [results, Tryz.results17, go_sem, *]) rfl ⟨⟨n, 1, 0, 0, 0, 0, 0, true⟩, rfl, by unfold B8; simp, ?_⟩
      exact (((((((B6.setCell (p := ⟨R, 0, none⟩) hR _).setCell (p := ⟨R, 1, none⟩) hR _).setCell (p := ⟨R, 2, none⟩) hR _).setCell (p := ⟨R, 3, none⟩) hR _).setCell (p := ⟨R, 4, none⟩) hR _).setCell (p := ⟨R, 5, none⟩) hR _).setCell (p := ⟨R, 6, none⟩) hR _).setCell (p := ⟨R, 7, none⟩) hR _
    | false =>
      go_wp2_with fail
      go_at_call 56
      refine (drawBelow s5 (OO.length : Int) (by omega) (by omega)).mono ?_
      rintro e y6 ⟨n, rfl, n0, n1, s6, g6⟩
      have R6 := R5.grown g6 hRc
      have B6 : Below w.heap.size w y6 := B5.grown g6 B5.size (fun k e => by simp at e; omega)
      have O6 := O5.grown g6 (by omega)
      clear R5 B5 s5 g6 O5
      obtain ⟨m, rfl⟩ : ∃ m : Nat, n = (m : Int) := ⟨n.toNat, by omega⟩
      have hm : m < OO.length := by omega
      obtain ⟨b, off, rfl, _⟩ := O6.view.2 (by omega)
      obtain ⟨o, ho⟩ : ∃ o, OO.getD m Ou.nil = o := ⟨_, rfl⟩
      have hck : OuAtO y6 b (off + m * 8) o := by
        rw [← ho]
        exact ouAtO_of (O6.view.2.at_ ouEnc_len Ou.nil hm)
      have hob : B8o o := hOb o (by rw [← ho]; simp only [List.getD, List.getElem?_eq_getElem hm, Option.getD_some]; exact List.getElem_mem hm)
      obtain ⟨c0, c1, c2, c3, c4, c5, c6, c7⟩ := hck
      obtain ⟨⟨r0, r1, r2, r3, r4, r5, r6, r7⟩, rf⟩ := R6
      have f0 := rf 0
      have f1 := rf 1
      have f2 := rf 2
      have f3 := rf 3
      have f4 := rf 4
      have f5 := rf 5
      have f6 := rf 6
      have f7 := rf 7
      clear ho hOb
      go_wp2
      refine bodyPost_ret (v := .agg #[.int .i64 o.k, .int .i64 o.pt, .int .i64 o.r, .int .i64 o.c, .int .i64 o.b, .int .i64 o.p, .int .i64 o.h, .bool o.on]) (by simp [results, Tryz.results17, go_sem, *]) rfl ⟨⟨o.k, o.pt, o.r, o.c, o.b, o.p, o.h, o.on⟩, rfl, hob, ?_⟩
      exact (((((((B6.setCell (p := ⟨R, 0, none⟩) hR _).setCell (p := ⟨R, 1, none⟩) hR _).setCell (p := ⟨R, 2, none⟩) hR _).setCell (p := ⟨R, 3, none⟩) hR _).setCell (p := ⟨R, 4, none⟩) hR _).setCell (p := ⟨R, 5, none⟩) hR _).setCell (p := ⟨R, 6, none⟩) hR _).setCell (p := ⟨R, 7, none⟩) hR _

end Go.Proofs.YthgcbihhdbpbdaaGreatDoor
