/- What comes in, drawn. Bridges drawn: right ones. Bridges drawn. Bridges drawn of a code. Ticks, one behind the other. What was shut for a ring. -/
import Derived.Test.YtbffdkjgadhdoaaRows
import Derived.WalkKit
import Derived.ProofKit
import Derived.OpenShut
import Derived.ShutString
import Derived.ChangeOld
import Derived.Below
import Derived.Deep.QuietTactic
import Derived.BigQuiet
import Derived.WalkSmall
import Derived.Laws.OwnMore
import Derived.WalkSpells
import Derived.WalkLawsBesides
import Derived.Deep.Cut
import Derived.Test.YtbffdkjgadhdoaaPDraw2
import Derived.Test.YtbffdkjgadhdoaaIn1
import Derived.Test.YtbffdkjgadhdoaaFlatApp
import Derived.Test.YtbffdkjgadhdoaaBr1
import Derived.Test.YtbffdkjgadhdoaaTakes
import Derived.Test.YtbffdkjgadhdoaaRe5
import Derived.Test.YtbffdkjgadhdoaaBr9s
import Derived.Maps.AppendAt
namespace Go.Proofs.Ytbffdkjgadhdoaa
open Go.ChangeShapes Go.WideShapes Go.ChangeAt Go.RowKit
open Go.ChangeMaps (open_string shut_string)
set_option linter.unusedVariables false
set_option maxRecDepth 100000

/-- A box of an In that may be written. -/
structure IBox (w : World) (q : Nat) (x : Ik) : Prop where
  at_ : InAt w q x
  fr : ∀ i, w.frozen? ⟨q, i, none⟩ = false
theorem IBox.keep {w w' : World} {q : Nat} {x : Ik} (h : IBox w q x) (k : w'.heap[q]? = w.heap[q]?) : IBox w' q x := ⟨h.at_.keep k, fun i => (World.frozen?_of_block (a := ⟨q, i, none⟩) k).trans (h.fr i)⟩
theorem IBox.grown {w w' : World} {q cb : Nat} {x : Ik} (h : IBox w q x) (g : w.grownBy w' (some cb)) (hne : q ≠ cb) : IBox w' q x := h.keep (g.block q h.at_.lt (by simpa using hne))
theorem BBox.grown {w w' : World} {q cb : Nat} {id : Int} {v : Value} (h : BBox w q id v) (g : w.grownBy w' (some cb)) (hne : q ≠ cb) : BBox w' q id v := h.keep (g.block q h.lt (by simpa using hne))
theorem BBox.other {w : World} {q q' i : Nat} {id : Int} {v u : Value} (h : BBox w q id v) (hne : q ≠ q') : BBox (w.setCell ⟨q', i, none⟩ u) q id v := h.keep (Below.heap_setCell _ _ _ _ hne)
theorem FOwn.grown {X : Type} {enc : X → List Value} {n : Nat} {T : TypeId} {base cb : Nat} {w w' : World} {v : Value} {L : List X} (h : FOwn enc n T base w v L) (g : w.grownBy w' (some cb)) (hb : cb < base) : FOwn enc n T base w' v L :=
  h.keep fun k e => g.block k (h.lt k e).2 (by have := (h.lt k e).1; simp; omega)
theorem FOwn.other {X : Type} {enc : X → List Value} {n : Nat} {T : TypeId} {base q i : Nat} {w : World} {v u : Value} {L : List X} (h : FOwn enc n T base w v L) (hq : q < base) : FOwn enc n T base (w.setCell ⟨q, i, none⟩ u) v L :=
  h.keep fun k e => Below.heap_setCell _ _ _ _ (by have := (h.lt k e).1; show k ≠ q; omega)
theorem DV.later8 {w y y' : World} {cb : Nat} {ad : Option Addr} {len cap : Nat} (h : DV w cb ad len cap y) (k : Below y.heap.size y y') : DV w cb ad len cap y' :=
  ⟨h.cur.carry (k.block _ h.cur.lt), grown_trans h.gr ⟨k.os, k.tape, k.output, k.size, fun i hi _ => k.block i hi⟩⟩
def DrewI (w : World) (cb : Nat) (ad : Option Addr) (len cap : Nat) (f : Nat → Int) (e : Ending) (w' : World) : Prop := ∃ x : Ik, e = .returned (.agg #[.int .i64 x.k, .int .i64 x.q, .int .i64 x.r, .int .i64 x.c, .int .i64 x.b, .int .i64 x.p, .int .i64 x.h, .bool x.up]) ∧ Src w' cb ad len cap f ∧ w.grownBy w' (some cb)
set_option maxHeartbeats 4000000 in
theorem drawI8 {cb : Nat} {ad : Option Addr} {len cap : Nat} {f : Nat → Int} (w : World) (hs : Src w cb ad len cap f) (hcb : cb < w.heap.size) : Calls Try.prog 84 #[.pointer (some ⟨cb, 0, none⟩)] w fun e w' => DrewI w cb ad len cap f e w' := by
  obtain ⟨R, hRe⟩ : ∃ R, R = w.heap.size := ⟨_, rfl⟩
  have hR : w.heap.size ≤ R := by omega
  have hRc : R ≠ cb := by omega
  obtain ⟨x0, hx0⟩ : ∃ x, x = w.alloc (Obj.cells #[.int .i64 0, .int .i64 0, .int .i64 0, .int .i64 0, .int .i64 0, .int .i64 0, .int .i64 0, .bool false] 46) := ⟨_, rfl⟩
  have D0 : DV w cb ad len cap x0 := by rw [hx0]; exact (DV.start hs).alloc _
  have Q0 : IBox x0 R ⟨0, 0, 0, 0, 0, 0, 0, false⟩ := by rw [hx0, hRe]; exact ⟨InAt.new w _ ⟨0, 0, 0, 0, 0, 0, 0, false⟩, fun i => by simp [go_sem]⟩
  go_enter Try.func84, Try.ntmps84
  go_wp2_with fail
  go_at_call 38
  rw [← hx0, ← hRe]
  clear hx0 hRe
  refine (drawBelow (D0.src hs) 4 (by decide) (by decide)).mono ?_
  rintro e y1 ⟨q, rfl, q0_, q1_, s1, g1⟩
  have D1 := D0.step s1 g1
  have Q1 := Q0.grown g1 hRc
  clear D0 Q0 s1 g1
  go_wp2_with fail
  go_at_call 38
  refine (drawBelow (D1.src hs) 4 (by decide) (by decide)).mono ?_
  rintro e y2 ⟨t, rfl, t0_, t1_, s2, g2⟩
  have D2 := D1.step s2 g2
  have Q2 := Q1.grown g2 hRc
  clear D1 Q1 s2 g2
  by_cases h0 : t = 0
  · subst h0
    have DZ := ((((((((D2.set (N := R) (i := 0) (by omega) hcb (.int .i64 2)).set (N := R) (i := 1) (by omega) hcb (.int .i64 0)).set (N := R) (i := 2) (by omega) hcb (.int .i64 0)).set (N := R) (i := 3) (by omega) hcb (.int .i64 0)).set (N := R) (i := 4) (by omega) hcb (.int .i64 0)).set (N := R) (i := 5) (by omega) hcb (.int .i64 0)).set (N := R) (i := 6) (by omega) hcb (.int .i64 0)).set (N := R) (i := 7) (by omega) hcb (.bool false))
    obtain ⟨⟨q0, q1, q2, q3, q4, q5, q6, q7⟩, qf⟩ := Q2
    go_wp2
    refine bodyPost_ret (v := .agg #[.int .i64 2, .int .i64 0, .int .i64 0, .int .i64 0, .int .i64 0, .int .i64 0, .int .i64 0, .bool false]) (by simp [results, Try.results84, go_sem, *]) rfl ⟨⟨2, 0, 0, 0, 0, 0, 0, false⟩, rfl, DZ.src hs, DZ.gr⟩
  have e0 : (t == 0) = false := by simpa using h0
  by_cases h1 : t = 1
  · subst h1
    clear h0 e0
    go_wp2_with fail
    go_at_call 39
    refine (drawOnce (D2.src hs) 3 (by decide) (by decide)).mono ?_
    rintro e y3 ⟨bo, rfl, s3, g3⟩
    have D3 := D2.step s3 g3
    have Q3 := Q2.grown g3 hRc
    clear D2 Q2 s3 g3
    have DZ := ((((((((D3.set (N := R) (i := 0) (by omega) hcb (.int .i64 3)).set (N := R) (i := 1) (by omega) hcb (.int .i64 q)).set (N := R) (i := 2) (by omega) hcb (.int .i64 0)).set (N := R) (i := 3) (by omega) hcb (.int .i64 0)).set (N := R) (i := 4) (by omega) hcb (.int .i64 0)).set (N := R) (i := 5) (by omega) hcb (.int .i64 0)).set (N := R) (i := 6) (by omega) hcb (.int .i64 0)).set (N := R) (i := 7) (by omega) hcb (.bool (!bo)))
    obtain ⟨⟨q0, q1, q2, q3, q4, q5, q6, q7⟩, qf⟩ := Q3
    go_wp2
    refine bodyPost_ret (v := .agg #[.int .i64 3, .int .i64 q, .int .i64 0, .int .i64 0, .int .i64 0, .int .i64 0, .int .i64 0, .bool (!bo)]) (by simp [results, Try.results84, go_sem, *]) rfl ⟨⟨3, q, 0, 0, 0, 0, 0, (!bo)⟩, rfl, DZ.src hs, DZ.gr⟩
  have e1 : (t == 1) = false := by simpa using h1
  go_wp2_with fail
  go_at_call 70
  refine (drawR6 y2 (D2.src hs) D2.cur.lt).mono ?_
  rintro e y3 ⟨r, c, b, p, rfl, _, s3, g3⟩
  have D3 := D2.step s3 g3
  have Q3 := Q2.grown g3 hRc
  clear D2 Q2 s3 g3
  go_wp2_with fail
  go_at_call 38
  refine (drawBelow (D3.src hs) 4 (by decide) (by decide)).mono ?_
  rintro e y4 ⟨h, rfl, h0_, h1_, s4, g4⟩
  have D4 := D3.step s4 g4
  have Q4 := Q3.grown g4 hRc
  clear D3 Q3 s4 g4
  have DZ := ((((((((D4.set (N := R) (i := 0) (by omega) hcb (.int .i64 1)).set (N := R) (i := 1) (by omega) hcb (.int .i64 q)).set (N := R) (i := 2) (by omega) hcb (.int .i64 r)).set (N := R) (i := 3) (by omega) hcb (.int .i64 c)).set (N := R) (i := 4) (by omega) hcb (.int .i64 b)).set (N := R) (i := 5) (by omega) hcb (.int .i64 p)).set (N := R) (i := 6) (by omega) hcb (.int .i64 h)).set (N := R) (i := 7) (by omega) hcb (.bool false))
  obtain ⟨⟨q0, q1, q2, q3, q4, q5, q6, q7⟩, qf⟩ := Q4
  go_wp2
  refine bodyPost_ret (v := .agg #[.int .i64 1, .int .i64 q, .int .i64 r, .int .i64 c, .int .i64 b, .int .i64 p, .int .i64 h, .bool false]) (by simp [results, Try.results84, go_sem, *]) rfl ⟨⟨1, q, r, c, b, p, h, false⟩, rfl, DZ.src hs, DZ.gr⟩

end Go.Proofs.Ytbffdkjgadhdoaa
namespace Go.Proofs.Ytbffdkjgadhdoaa
open Go.ChangeShapes Go.WideShapes Go.ChangeAt Go.RowKit
open Go.ChangeMaps (open_string shut_string)
set_option linter.unusedVariables false
set_option maxRecDepth 100000

def DrewB (m : Nat) (w : World) (cb : Nat) (ad : Option Addr) (len cap : Nat) (f : Nat → Int) (e : Ending) (w' : World) : Prop := ∃ id ad' cap' L, e = .returned (.agg #[.int .i64 id, .slice ad' (List.length L) cap']) ∧ (1 ≤ L.length ∧ L.length ≤ m) ∧ FOwn ptEnc 11 41 w.heap.size w' (.slice ad' L.length cap') L ∧ Src w' cb ad len cap f ∧ w.grownBy w' (some cb)
theorem newL_len {id n : Int} (h1 : 1 ≤ id) (h2 : id ≤ 9) (h3 : 1 ≤ n) (h4 : n ≤ 4) : (newL id n).length = n.toNat := by
  unfold newL
  rw [if_pos (by unfold nOk; rw [decide_eq_true (show 1 ≤ id ∧ id ≤ 9 from ⟨h1, h2⟩), decide_eq_true (show 1 ≤ n ∧ n ≤ 4 from ⟨h3, h4⟩)]; rfl), List.length_replicate]
set_option maxHeartbeats 8000000 in
theorem drawR8 {cb : Nat} {ad : Option Addr} {len cap : Nat} {f : Nat → Int} (w : World) (hs : Src w cb ad len cap f) (hcb : cb < w.heap.size) : Calls Try.prog 64 #[.pointer (some ⟨cb, 0, none⟩)] w fun e w' => DrewB 4 w cb ad len cap f e w' := by
  obtain ⟨R, hRe⟩ : ∃ R, R = w.heap.size := ⟨_, rfl⟩
  have hR : w.heap.size ≤ R := by omega
  have hRc : R ≠ cb := by omega
  obtain ⟨x0, hx0⟩ : ∃ x, x = w.alloc (Obj.cells #[.int .i64 0, .slice none 0 0] 26) := ⟨_, rfl⟩
  have D0 : DV w cb ad len cap x0 := by rw [hx0]; exact (DV.start hs).alloc _
  have R0 : BBox x0 R 0 (.slice none 0 0) := by rw [hx0, hRe]; exact BBox.new w _ _ _
  go_enter Try.func64, Try.ntmps64
  go_wp2_with fail
  go_at_call 38
  rw [← hx0, ← hRe]
  clear hx0 hRe
  refine (drawBelow (D0.src hs) 6 (by decide) (by decide)).mono ?_
  rintro e y1 ⟨i1, rfl, i10, i11, s1, g1⟩
  have D1 := D0.step s1 g1
  have R1 := R0.grown g1 hRc
  clear D0 R0 s1 g1
  go_wp2_with fail
  go_at_call 38
  refine (drawBelow (D1.src hs) 4 (by decide) (by decide)).mono ?_
  rintro e y2 ⟨i2, rfl, i20, i21, s2, g2⟩
  have D2 := D1.step s2 g2
  have R2 := R1.grown g2 hRc
  clear D1 R1 s2 g2
  go_wp2_with fail
  go_at_call 30
  refine (newBS (1 + i1) (1 + i2) y2).mono ?_
  rintro e y3 ⟨a0, c0, rfl, o3, k3⟩
  have hln := newL_len (id := 1 + i1) (n := 1 + i2) (by omega) (by omega) (by omega) (by omega)
  have R2l := R2.lt
  have D3 := D2.later8 k3
  have R3 := R2.below k3 R2.lt
  have z3 := k3.size
  obtain ⟨L0, hL0⟩ : ∃ L, newL (1 + i1) (1 + i2) = L := ⟨_, rfl⟩
  rw [hL0] at o3 hln ⊢
  have hl1 : 1 ≤ L0.length ∧ L0.length ≤ 4 := by omega
  obtain ⟨id0, hid⟩ : ∃ v, newI (1 + i1) (1 + i2) = v := ⟨_, rfl⟩
  obtain ⟨nk, hnk⟩ : ∃ v, nOk (1 + i1) (1 + i2) = v := ⟨_, rfl⟩
  rw [hid, hnk]
  clear hid hnk hL0 hln D2 R2 k3
  obtain ⟨y4, hy4⟩ : ∃ y_, y_ = y3.alloc (Obj.cells #[.int .i64 id0, .slice a0 L0.length c0] 26) := ⟨_, rfl⟩
  have kn : Below y3.heap.size y3 y4 := by rw [hy4]; exact below_new _
  have Q4 : BBox y4 y3.heap.size id0 (.slice a0 L0.length c0) := by rw [hy4]; exact BBox.new y3 _ _ _
  have D4 := D3.later8 kn
  have R4 := R3.below kn R3.lt
  have o4 := o3.later kn
  have og : ∀ g_, (Value.slice a0 L0.length c0).ownBlock = some g_ → y2.heap.size ≤ g_ ∧ g_ < y3.heap.size := fun g_ e => o3.lt g_ e
  go_upto_region 2 with fail
  rw [← hy4]
  clear hy4 kn D3 R3 o3
  generalize hQ : y3.heap.size = Q at Q4 og z3 ⊢
  have hRQ : R < Q := by omega
  clear hQ
  obtain ⟨n, hn⟩ : ∃ n, L0.length = n := ⟨_, rfl⟩
  have o5 : FOwn ptEnc 11 41 (R + 1) y4 (.slice a0 L0.length c0) L0 := o4.base (by omega)
  have hj : ∀ g_, (Value.slice a0 L0.length c0).ownBlock = some g_ → g_ ≠ Q := fun g_ e => by have := og g_ e; omega
  have hn4 : 1 ≤ n ∧ n ≤ 4 := by omega
  replace hn : Hid _ := hn
  clear og o4
  go_wp2
  go_loopw [5] (fun i wr => ∃ k : Nat, k ≤ n ∧ i = .int .i64 (k : Int) ∧ (∃ id L a c, (1 ≤ List.length L ∧ List.length L ≤ 4) ∧ BBox wr Q id (.slice a (List.length L) c) ∧ FOwn ptEnc 11 41 (R + 1) wr (.slice a (List.length L) c) L ∧ (∀ g_, (Value.slice a (List.length L) c).ownBlock = some g_ → g_ ≠ Q) ∧ List.length L = n) ∧ BBox wr R 0 (.slice none 0 0) ∧ DV w cb ad len cap wr) (fun i _ => n - (intOf i).toNat)
  case atStart => exact ⟨0, Nat.zero_le _, rfl, ⟨id0, L0, a0, c0, hl1, Q4, o5, hj, hn.out⟩, R4, D4⟩
  case round =>
    clear Q4 R4 D4 o5 hj
    obtain ⟨k, hk, rfl, ⟨id, L, a, c, hL, Q4, o4, hj, hLn⟩, R4, D4⟩ := hrel
    replace hLn : Hid _ := hLn
    have hQl := Q4.lt
    obtain ⟨⟨q0, q1⟩, qf⟩ := Q4
    have Q4 : BBox wr Q id (.slice a L.length c) := ⟨⟨q0, q1⟩, qf⟩
    have hQc : Q ≠ cb := by omega
    by_cases hlt : k < n
    · have hltL : k < L.length := by rw [hLn.out]; exact hlt
      go_wp2_with fail
      go_at_call 39
      refine (drawOnce (D4.src hs) 4 (by decide) (by decide)).mono ?_
      rintro e y5 ⟨bo, rfl, s5, g5⟩
      have D5 := D4.step s5 g5
      have R5 := R4.grown g5 hRc
      have Q5 := Q4.grown g5 hQc
      have o5 := o4.grown g5 (by omega)
      clear D4 R4 Q4 o4 s5 g5 q0 q1 qf
      cases bo
      · obtain ⟨⟨q0, q1⟩, qf⟩ := Q5
        have Q5 : BBox y5 Q id (.slice a L.length c) := ⟨⟨q0, q1⟩, qf⟩
        have hc := reactS id a c L ⟨3, (k : Int), 0, 0, 0, 0, 0, true⟩ y5 o5.view.2 (by omega) o5.capn
        go_wp2_with fail
        go_at_call 83
        refine hc.mono ?_
        rintro e y6 ⟨a6, c6, ao, co, rfl, o6, oo6, dd, k6⟩
        have hrl := reactL_len id L ⟨3, (k : Int), 0, 0, 0, 0, 0, true⟩
        obtain ⟨L6, hL6⟩ : ∃ L6, reactL id L ⟨3, (k : Int), 0, 0, 0, 0, 0, true⟩ = L6 := ⟨_, rfl⟩
        obtain ⟨O6, hO6⟩ : ∃ O6, reactO id L ⟨3, (k : Int), 0, 0, 0, 0, 0, true⟩ = O6 := ⟨_, rfl⟩
        rw [hL6] at o6 hrl ⊢
        rw [hO6] 
        have D6 := D5.later8 k6
        have R6 := R5.below k6 R5.lt
        have Q6 := Q5.below k6 Q5.lt
        have Q5l := Q5.lt
        have j6 : ∀ g_, (Value.slice a6 L6.length c6).ownBlock = some g_ → g_ ≠ Q := fun g_ e => by have := (o6.lt g_ e).1; omega
        have o6 : FOwn ptEnc 11 41 (R + 1) y6 (.slice a6 L6.length c6) L6 := o6.base (by omega)
        clear hc oo6 dd hL6 hO6 k6 D5 R5 Q5 o5 q0 q1 qf
        have QP := Q6.put id (.slice a6 L6.length c6)
        have RP := (R6.other (q' := Q) (i := 0) (u := .int .i64 id) (by omega)).other (q' := Q) (i := 1) (u := .slice a6 L6.length c6) (by omega)
        have DP := (D6.set (N := Q) (i := 0) (by omega) hcb (.int .i64 id)).set (N := Q) (i := 1) (by omega) hcb (.slice a6 L6.length c6)
        have OP : FOwn ptEnc 11 41 (R + 1) ((y6.setCell ⟨Q, 0, none⟩ (.int .i64 id)).setCell ⟨Q, 1, none⟩ (.slice a6 L6.length c6)) (.slice a6 L6.length c6) L6 := o6.keep fun g_ e => by
          rw [Below.heap_setCell _ _ _ _ (by show g_ ≠ Q; exact j6 g_ e), Below.heap_setCell _ _ _ _ (by show g_ ≠ Q; exact j6 g_ e)]
        obtain ⟨⟨q0, q1⟩, qf⟩ := Q6
        replace hrl : Hid _ := hrl
        have hl6 : 1 ≤ L6.length ∧ L6.length ≤ 4 := by have := hrl.out; omega
        go_wp2
        go_roundw
        case rel => exact ⟨k + 1, by omega, by go_num, ⟨id, L6, a6, c6, hl6, QP, OP, j6, by rw [hrl.out, hLn.out]⟩, RP, DP⟩
        case measure => simp [intOf]; omega
      · go_wp2
        go_roundw
        case rel => exact ⟨k + 1, by omega, by go_num, ⟨id, L, a, c, hL, Q5, o5, hj, hLn.out⟩, R5, D5⟩
        case measure => simp [intOf]; omega
    · have hge : ¬ k < L.length := by rw [hLn.out]; exact hlt
      have dL : decide ((k : Int) < (L.length : Int)) = false := decide_eq_false (by omega)
      have dL' : decide (k < L.length) = false := decide_eq_false hge
      replace hge : Hid _ := hge
      replace hlt : Hid _ := hlt
      go_upto_region 7 with fail
      clear q0 q1 qf
      go_wp2
      go_loopw [6] (fun i wr => ∃ k : Nat, k ≤ 10 ∧ i = .int .i64 (k : Int) ∧ (∃ id L a c, (1 ≤ List.length L ∧ List.length L ≤ 4) ∧ BBox wr Q id (.slice a (List.length L) c) ∧ FOwn ptEnc 11 41 (R + 1) wr (.slice a (List.length L) c) L ∧ (∀ g_, (Value.slice a (List.length L) c).ownBlock = some g_ → g_ ≠ Q)) ∧ BBox wr R 0 (.slice none 0 0) ∧ DV w cb ad len cap wr) (fun i _ => 10 - (intOf i).toNat)
      case atStart => exact ⟨0, Nat.zero_le _, rfl, ⟨id, L, a, c, hL, Q4, o4, hj⟩, R4, D4⟩
      case round =>
        clear Q4 R4 D4 o4 hj hL hLn hQl hlt
        obtain ⟨k, hk, rfl, ⟨id, L, a, c, hL, Q4, o4, hj⟩, R4, D4⟩ := hrel
        have hQl := Q4.lt
        go_wp2_with fail
        go_at_call 38
        refine (drawBelow (D4.src hs) 10 (by decide) (by decide)).mono ?_
        rintro e y5 ⟨t, rfl, t0, t1, s5, g5⟩
        have D5 := D4.step s5 g5
        have R5 := R4.grown g5 hRc
        have Q5 := Q4.grown g5 hQc
        have o5 := o4.grown g5 (by omega)
        clear D4 R4 Q4 o4 s5 g5
        by_cases hlt : (k : Int) < t
        · have dl : decide ((k : Int) < t) = true := decide_eq_true hlt
          have hk10 : k < 10 := by omega
          replace hlt : Hid _ := hlt
          go_upto_region 10 with fail
          refine wp_region_held (S := fun _ => True) (by kernel_rfl) ?_
          change wpAnyH _ _ _ _ _ _ _ _ (World.drew _)
          have D6 := D5.drew
          have R6 : BBox y5.drew R 0 (.slice none 0 0) := R5.keep rfl
          have Q6 : BBox y5.drew Q id (.slice a L.length c) := Q5.keep rfl
          have o6 : FOwn ptEnc 11 41 (R + 1) y5.drew (.slice a L.length c) L := o5.keep (fun _ _ => rfl)
          have hQd : Q < y5.drew.heap.size := Q6.lt
          obtain ⟨u0, hu0⟩ : ∃ y_, y_ = y5.drew := ⟨_, rfl⟩
          rw [← hu0] at D6 R6 Q6 o6 hQd ⊢
          clear hu0 D5 R5 Q5 o5
          have hT : True := trivial
          refine takeW 1 42 (.pointer (some ⟨cb, 0, none⟩)) rfl rfl (by kernel_rfl) (by kernel_rfl) (by kernel_rfl) (fun _ _ _ h => h) (by kernel_rfl) (by (intro w hSw; go_simp)) (by assumption) ?_
          simp only [List.set_cons_zero, List.set_cons_succ]
          refine wpAnyH_all (rs := [0, 2]) (by kernel_rfl) (by simp) ?_
          intro i hi; rcases (by simpa using hi : i = 0 ∨ i = 2) with rfl | rfl
          · refine wpOp_step rfl (fun K hK => ?_)
            rw [if_pos (by kernel_rfl)]
            have cc_ := Q6
            obtain ⟨⟨t0_, t1_⟩, tf_⟩ := cc_
            go_simp
            clear t0_ t1_ tf_
            refine hK _ _ ⟨trivial, ?_⟩
            clear hK K hi
            refine wpAnyH_all (rs := [2]) (by kernel_rfl) (by simp) ?_
            intro i hi; obtain rfl : i = 2 := by simpa using hi
            refine wpOp_step rfl (fun K hK => ?_)
            rw [if_pos (by kernel_rfl)]
            go_simp
            go_at_call 84
            refine (drawI8 u0 (D6.src hs) D6.cur.lt).mono ?_
            rintro e v1 ⟨x, rfl, s7, g7⟩
            have D6 := D6.step s7 g7
            have R6 := R6.grown g7 hRc
            have Q6 := Q6.grown g7 hQc
            have o6 := o6.grown g7 (by omega)
            clear s7 g7
            refine hK _ _ ⟨trivial, ?_⟩
            clear hK K hi
            refine wpAnyH_all (rs := [3]) (by kernel_rfl) (by simp) ?_
            intro i hi; obtain rfl : i = 3 := by simpa using hi
            refine wpOp_step rfl (fun K hK => ?_)
            rw [if_pos (by kernel_rfl)]
            go_simp
            go_at_call 83
            refine (reactS id a c L x v1 o6.view.2 (by omega) o6.capn).mono ?_
            rintro e v2 ⟨a6, c6, ao, co, rfl, o7, oo6, dd, k6⟩
            have hrl := reactL_len id L x
            obtain ⟨L6, hL6⟩ : ∃ L6, reactL id L x = L6 := ⟨_, rfl⟩
            obtain ⟨O6, hO6⟩ : ∃ O6, reactO id L x = O6 := ⟨_, rfl⟩
            rw [hL6] at o7 hrl ⊢
            rw [hO6]
            replace hrl : Hid _ := hrl
            have Q6l := Q6.lt
            have j6 : ∀ g_, (Value.slice a6 L6.length c6).ownBlock = some g_ → g_ ≠ Q := fun g_ e => by have := (o7.lt g_ e).1; omega
            have D6 := D6.later8 k6
            have R6 := R6.below k6 R6.lt
            have Q6 := Q6.below k6 Q6.lt
            have o7 : FOwn ptEnc 11 41 (R + 1) v2 (.slice a6 L6.length c6) L6 := o7.base (by omega)
            clear oo6 dd hL6 hO6 k6 o6
            refine hK _ _ ⟨trivial, ?_⟩
            clear hK K hi
            refine takeW 4 40 (.tuple #[.agg #[.int .i64 id, .slice a6 L6.length c6], .slice ao O6.length co]) rfl rfl (by kernel_rfl) (by kernel_rfl) (by kernel_rfl) (fun _ _ _ h => h) (by kernel_rfl) (by (intro w hSw; go_simp)) (by assumption) ?_
            simp only [List.set_cons_zero, List.set_cons_succ]
            refine takeW 5 45 (.agg #[.int .i64 id, .slice a6 L6.length c6]) rfl rfl (by kernel_rfl) (by kernel_rfl) (by kernel_rfl) (fun _ _ _ h => h) (by kernel_rfl) (by (intro w hSw; go_simp)) (by assumption) ?_
            simp only [List.set_cons_zero, List.set_cons_succ]
            refine takeW 6 46 (.slice ao O6.length co) rfl rfl (by kernel_rfl) (by kernel_rfl) (by kernel_rfl) (fun _ _ _ h => h) (by kernel_rfl) (by (intro w hSw; go_simp)) (by assumption) ?_
            simp only [List.set_cons_zero, List.set_cons_succ]
            refine wpAnyH_all (rs := [7]) (by kernel_rfl) (by simp) ?_
            intro i hi; obtain rfl : i = 7 := by simpa using hi
            refine wpOp_step rfl (fun K hK => ?_)
            rw [if_pos (by kernel_rfl)]
            have QP := Q6.put id (.slice a6 L6.length c6)
            have RP := (R6.other (q' := Q) (i := 0) (u := .int .i64 id) (by omega)).other (q' := Q) (i := 1) (u := .slice a6 L6.length c6) (by omega)
            have DP := (D6.set (N := Q) (i := 0) (by omega) hcb (.int .i64 id)).set (N := Q) (i := 1) (by omega) hcb (.slice a6 L6.length c6)
            have OP : FOwn ptEnc 11 41 (R + 1) ((v2.setCell ⟨Q, 0, none⟩ (.int .i64 id)).setCell ⟨Q, 1, none⟩ (.slice a6 L6.length c6)) (.slice a6 L6.length c6) L6 := o7.keep fun g_ e => by
              rw [Below.heap_setCell _ _ _ _ (by show g_ ≠ Q; exact j6 g_ e), Below.heap_setCell _ _ _ _ (by show g_ ≠ Q; exact j6 g_ e)]
            obtain ⟨⟨q0, q1⟩, qf⟩ := Q6
            go_simp
            refine hK _ _ ⟨trivial, ?_⟩
            clear hK K hi
            refine wpAnyH_done (by kernel_rfl) ?_ _
            have hl6 : 1 ≤ L6.length ∧ L6.length ≤ 4 := by have := hrl.out; omega
            go_wp2
            go_roundw
            case rel => exact ⟨k + 1, by omega, by go_num, ⟨id, L6, a6, c6, hl6, QP, OP, j6⟩, RP, DP⟩
            case measure => simp [intOf]; omega
          · refine wpOp_step rfl (fun K hK => ?_)
            rw [if_pos (by kernel_rfl)]
            go_simp
            go_at_call 84
            refine (drawI8 u0 (D6.src hs) D6.cur.lt).mono ?_
            rintro e v1 ⟨x, rfl, s7, g7⟩
            have D6 := D6.step s7 g7
            have R6 := R6.grown g7 hRc
            have Q6 := Q6.grown g7 hQc
            have o6 := o6.grown g7 (by omega)
            clear s7 g7
            refine hK _ _ ⟨trivial, ?_⟩
            clear hK K hi
            refine wpAnyH_all (rs := [0]) (by kernel_rfl) (by simp) ?_
            intro i hi; obtain rfl : i = 0 := by simpa using hi
            refine wpOp_step rfl (fun K hK => ?_)
            rw [if_pos (by kernel_rfl)]
            have cc_ := Q6
            obtain ⟨⟨t0_, t1_⟩, tf_⟩ := cc_
            go_simp
            clear t0_ t1_ tf_
            refine hK _ _ ⟨trivial, ?_⟩
            clear hK K hi
            refine wpAnyH_all (rs := [3]) (by kernel_rfl) (by simp) ?_
            intro i hi; obtain rfl : i = 3 := by simpa using hi
            refine wpOp_step rfl (fun K hK => ?_)
            rw [if_pos (by kernel_rfl)]
            go_simp
            go_at_call 83
            refine (reactS id a c L x v1 o6.view.2 (by omega) o6.capn).mono ?_
            rintro e v2 ⟨a6, c6, ao, co, rfl, o7, oo6, dd, k6⟩
            have hrl := reactL_len id L x
            obtain ⟨L6, hL6⟩ : ∃ L6, reactL id L x = L6 := ⟨_, rfl⟩
            obtain ⟨O6, hO6⟩ : ∃ O6, reactO id L x = O6 := ⟨_, rfl⟩
            rw [hL6] at o7 hrl ⊢
            rw [hO6]
            replace hrl : Hid _ := hrl
            have Q6l := Q6.lt
            have j6 : ∀ g_, (Value.slice a6 L6.length c6).ownBlock = some g_ → g_ ≠ Q := fun g_ e => by have := (o7.lt g_ e).1; omega
            have D6 := D6.later8 k6
            have R6 := R6.below k6 R6.lt
            have Q6 := Q6.below k6 Q6.lt
            have o7 : FOwn ptEnc 11 41 (R + 1) v2 (.slice a6 L6.length c6) L6 := o7.base (by omega)
            clear oo6 dd hL6 hO6 k6 o6
            refine hK _ _ ⟨trivial, ?_⟩
            clear hK K hi
            refine takeW 4 40 (.tuple #[.agg #[.int .i64 id, .slice a6 L6.length c6], .slice ao O6.length co]) rfl rfl (by kernel_rfl) (by kernel_rfl) (by kernel_rfl) (fun _ _ _ h => h) (by kernel_rfl) (by (intro w hSw; go_simp)) (by assumption) ?_
            simp only [List.set_cons_zero, List.set_cons_succ]
            refine takeW 5 45 (.agg #[.int .i64 id, .slice a6 L6.length c6]) rfl rfl (by kernel_rfl) (by kernel_rfl) (by kernel_rfl) (fun _ _ _ h => h) (by kernel_rfl) (by (intro w hSw; go_simp)) (by assumption) ?_
            simp only [List.set_cons_zero, List.set_cons_succ]
            refine takeW 6 46 (.slice ao O6.length co) rfl rfl (by kernel_rfl) (by kernel_rfl) (by kernel_rfl) (fun _ _ _ h => h) (by kernel_rfl) (by (intro w hSw; go_simp)) (by assumption) ?_
            simp only [List.set_cons_zero, List.set_cons_succ]
            refine wpAnyH_all (rs := [7]) (by kernel_rfl) (by simp) ?_
            intro i hi; obtain rfl : i = 7 := by simpa using hi
            refine wpOp_step rfl (fun K hK => ?_)
            rw [if_pos (by kernel_rfl)]
            have QP := Q6.put id (.slice a6 L6.length c6)
            have RP := (R6.other (q' := Q) (i := 0) (u := .int .i64 id) (by omega)).other (q' := Q) (i := 1) (u := .slice a6 L6.length c6) (by omega)
            have DP := (D6.set (N := Q) (i := 0) (by omega) hcb (.int .i64 id)).set (N := Q) (i := 1) (by omega) hcb (.slice a6 L6.length c6)
            have OP : FOwn ptEnc 11 41 (R + 1) ((v2.setCell ⟨Q, 0, none⟩ (.int .i64 id)).setCell ⟨Q, 1, none⟩ (.slice a6 L6.length c6)) (.slice a6 L6.length c6) L6 := o7.keep fun g_ e => by
              rw [Below.heap_setCell _ _ _ _ (by show g_ ≠ Q; exact j6 g_ e), Below.heap_setCell _ _ _ _ (by show g_ ≠ Q; exact j6 g_ e)]
            obtain ⟨⟨q0, q1⟩, qf⟩ := Q6
            go_simp
            refine hK _ _ ⟨trivial, ?_⟩
            clear hK K hi
            refine wpAnyH_done (by kernel_rfl) ?_ _
            have hl6 : 1 ≤ L6.length ∧ L6.length ≤ 4 := by have := hrl.out; omega
            go_wp2
            go_roundw
            case rel => exact ⟨k + 1, by omega, by go_num, ⟨id, L6, a6, c6, hl6, QP, OP, j6⟩, RP, DP⟩
            case measure => simp [intOf]; omega
        · have dl : decide ((k : Int) < t) = false := decide_eq_false hlt
          replace hlt : Hid _ := hlt
          go_upto_region 11 with fail
          have RP := R5.put id (.slice a L.length c)
          have DZ := (D5.set (N := R) (i := 0) (by omega) hcb (.int .i64 id)).set (N := R) (i := 1) (by omega) hcb (.slice a L.length c)
          have OZ : FOwn ptEnc 11 41 w.heap.size ((y5.setCell ⟨R, 0, none⟩ (.int .i64 id)).setCell ⟨R, 1, none⟩ (.slice a L.length c)) (.slice a L.length c) L := ((o5.other (q := R) (i := 0) (u := .int .i64 id) (by omega)).other (q := R) (i := 1) (u := .slice a L.length c) (by omega)).base (by omega)
          obtain ⟨⟨r0, r1⟩, rf⟩ := R5
          obtain ⟨⟨q0, q1⟩, qf⟩ := Q5
          obtain ⟨⟨p0, p1⟩, _⟩ := RP
          go_wp2
          refine bodyPost_ret (v := .agg #[.int .i64 id, .slice a L.length c]) (by simp [results, Try.results64, go_sem, *]) rfl ⟨id, a, c, L, rfl, by omega, OZ, DZ.src hs, DZ.gr⟩

end Go.Proofs.Ytbffdkjgadhdoaa
namespace Go.Proofs.Ytbffdkjgadhdoaa
open Go.ChangeShapes Go.WideShapes Go.ChangeAt Go.RowKit
open Go.ChangeMaps (open_string shut_string)
set_option linter.unusedVariables false
set_option maxRecDepth 100000

set_option maxHeartbeats 8000000 in
theorem drawL8 {cb : Nat} {ad : Option Addr} {len cap : Nat} {f : Nat → Int} (w : World) (hs : Src w cb ad len cap f) (hcb : cb < w.heap.size) : Calls Try.prog 34 #[.pointer (some ⟨cb, 0, none⟩)] w fun e w' => DrewB 6 w cb ad len cap f e w' := by
  obtain ⟨i0, hi, hz0, hz1, hz2⟩ := info_parts ptInfo
  obtain ⟨R, hRe⟩ : ∃ R, R = w.heap.size := ⟨_, rfl⟩
  have hR : w.heap.size ≤ R := by omega
  have hRc : R ≠ cb := by omega
  obtain ⟨x0, hx0⟩ : ∃ x, x = w.alloc (Obj.cells #[.int .i64 0, .slice none 0 0] 26) := ⟨_, rfl⟩
  have D0 : DV w cb ad len cap x0 := by rw [hx0]; exact (DV.start hs).alloc _
  have R0 : BBox x0 R 0 (.slice none 0 0) := by rw [hx0, hRe]; exact BBox.new w _ _ _
  have R0l := R0.lt
  go_enter Try.func34, Try.ntmps34
  go_wp2_with fail
  go_at_call 64
  rw [← hx0, ← hRe]
  clear hx0 hRe
  refine (drawR8 x0 (D0.src hs) D0.cur.lt).mono ?_
  rintro e y1 ⟨id, a, c, L, rfl, hL, o1, s1, g1⟩
  have D1 := D0.step s1 g1
  have R1 := R0.grown g1 hRc
  have z1 := g1.size
  have og : ∀ g_, (Value.slice a L.length c).ownBlock = some g_ → x0.heap.size ≤ g_ ∧ g_ < y1.heap.size := fun g_ e => o1.lt g_ e
  clear D0 R0 s1 g1
  obtain ⟨y4, hy4⟩ : ∃ y_, y_ = y1.alloc (Obj.cells #[.int .i64 id, .slice a L.length c] 26) := ⟨_, rfl⟩
  have kn : Below y1.heap.size y1 y4 := by rw [hy4]; exact below_new _
  have Q4 : BBox y4 y1.heap.size id (.slice a L.length c) := by rw [hy4]; exact BBox.new y1 _ _ _
  have D4 := D1.later8 kn
  have R4 := R1.below kn R1.lt
  have o4 : FOwn ptEnc 11 41 (R + 1) y4 (.slice a L.length c) L := (o1.later kn).base (by omega)
  go_upto_region 2 with fail
  rw [← hy4]
  clear hy4 kn D1 R1 o1
  generalize hQ : y1.heap.size = Q at Q4 og z1 ⊢
  have hRQ : R < Q := by omega
  have hQc : Q ≠ cb := by omega
  have hj : ∀ g_, (Value.slice a L.length c).ownBlock = some g_ → g_ ≠ Q := fun g_ e => by have := og g_ e; omega
  clear hQ og
  go_wp2_with fail
  go_at_call 38
  refine (drawBelow (D4.src hs) 8 (by decide) (by decide)).mono ?_
  rintro e y5 ⟨t, rfl, t0, t1, s5, g5⟩
  have D5 := D4.step s5 g5
  have R5 := R4.grown g5 hRc
  have Q5 := Q4.grown g5 hQc
  have o5 := o4.grown g5 (by omega)
  clear D4 R4 Q4 o4 s5 g5
  by_cases h0 : t = 0
  · subst h0
    obtain ⟨y6, hy6⟩ : ∃ y_, y_ = y5.alloc (Obj.cells #[.int .i64 0, .int .i64 9, .int .i64 10] 3) := ⟨_, rfl⟩
    have kn : Below y5.heap.size y5 y6 := by rw [hy6]; exact below_new _
    have hg : ∀ i, i < 3 → ∃ z, y6.cell? ⟨y5.heap.size, i, none⟩ = some (.int .i64 z) ∧ True := by
      intro i h_
      rw [hy6]
      rcases (by omega : i = 0 ∨ i = 1 ∨ i = 2) with rfl | rfl | rfl
      · exact ⟨0, by simp [go_sem], trivial⟩
      · exact ⟨9, by simp [go_sem], trivial⟩
      · exact ⟨10, by simp [go_sem], trivial⟩
    have D6 := D5.later8 kn
    have R6 := R5.below kn R5.lt
    have Q6 := Q5.below kn Q5.lt
    have o6 := o5.later kn
    have hne : y5.heap.size ≠ cb := by have := D5.cur.lt; omega
    go_wp2_with fail
    go_at_call 65
    rw [← hy6]
    clear hy6 kn
    generalize y5.heap.size = E at hg hne ⊢
    refine (pickIntP (D6.src hs) (fun _ => True) E 3 3 hne (by decide) (by decide) hg).mono ?_
    rintro e y7 ⟨v, rfl, _, s7, g7⟩
    have D7 := D6.step s7 g7
    have R7 := R6.grown g7 hRc
    have Q7 := Q6.grown g7 hQc
    have o7 := o6.grown g7 (by omega)
    clear D6 R6 Q6 o6 s7 g7 D5 R5 Q5 o5 hg
    obtain ⟨y8, hy8⟩ : ∃ y_, y_ = y7.setCell ⟨Q, 0, none⟩ (.int .i64 v) := ⟨_, rfl⟩
    have Q8 : BBox y8 Q v (.slice a L.length c) := by rw [hy8]; exact ⟨⟨pset_same Q7.at_.c0, (pset_else (by decide)).trans Q7.at_.c1⟩, fun i => by rw [World.frozen?_setCell]; exact Q7.fr i⟩
    have D8 : DV w cb ad len cap y8 := by rw [hy8]; exact D7.set (by omega) hcb _
    have R8 : BBox y8 R 0 (.slice none 0 0) := by rw [hy8]; exact R7.other (by omega)
    have o8 : FOwn ptEnc 11 41 (R + 1) y8 (.slice a L.length c) L := by rw [hy8]; exact o7.keep fun g_ e => Below.heap_setCell _ _ _ _ (by show g_ ≠ Q; exact hj g_ e)
    obtain ⟨⟨q0, q1⟩, qf⟩ := Q7
    go_upto_region 9 with fail
    rw [← hy8]
    clear hy8 q0 q1 qf D7 R7 o7
    have RP := R8.put v (.slice a L.length c)
    have DZ := (D8.set (N := R) (i := 0) (by omega) hcb (.int .i64 v)).set (N := R) (i := 1) (by omega) hcb (.slice a L.length c)
    have OZ : FOwn ptEnc 11 41 w.heap.size ((y8.setCell ⟨R, 0, none⟩ (.int .i64 v)).setCell ⟨R, 1, none⟩ (.slice a L.length c)) (.slice a L.length c) L := ((o8.other (q := R) (i := 0) (u := .int .i64 v) (by omega)).other (q := R) (i := 1) (u := .slice a L.length c) (by omega)).base (by omega)
    obtain ⟨⟨r0, r1⟩, rf⟩ := R8
    obtain ⟨⟨q0, q1⟩, qf⟩ := Q8
    obtain ⟨⟨p0, p1⟩, _⟩ := RP
    go_wp2
    refine bodyPost_ret (v := .agg #[.int .i64 v, .slice a L.length c]) (by simp [results, Try.results34, go_sem, *]) rfl ⟨v, _, _, L, rfl, ⟨hL.1, by omega⟩, OZ, DZ.src hs, DZ.gr⟩
  have e0 : (t == 0) = false := by simpa using h0
  by_cases h1 : t = 1
  · subst h1
    obtain ⟨g, rfl, hg1, hg2⟩ := o5.row (by omega)
    have hgQ : g ≠ Q := hj g rfl
    go_upto_region 6 with fail
    refine wp_region_held (S := fun Y => BrAt Y Q id (.slice (some ⟨g, 0, none⟩) L.length c)) (by kernel_rfl) ?_
    change wpAnyH _ _ _ _ _ _ _ _ (World.drew _)
    have D6 := D5.drew
    have R6 : BBox y5.drew R 0 (.slice none 0 0) := R5.keep rfl
    have Q6 : BBox y5.drew Q id (.slice (some ⟨g, 0, none⟩) L.length c) := Q5.keep rfl
    have o6 : FOwn ptEnc 11 41 (R + 1) y5.drew (.slice (some ⟨g, 0, none⟩) L.length c) L := o5.keep (fun _ _ => rfl)
    obtain ⟨u0, hu0⟩ : ∃ y_, y_ = y5.drew := ⟨_, rfl⟩
    rw [← hu0] at D6 R6 Q6 o6 ⊢
    clear hu0 D5 R5 Q5 o5
    have hT := Q6.at_
    refine takeW 0 16 (.pointer (some ⟨Q, 1, none⟩)) rfl rfl (by kernel_rfl) (by kernel_rfl) (by kernel_rfl) (fun _ _ _ h => h) (by kernel_rfl) (by (intro w hSw; go_simp)) (by assumption) ?_
    simp only [List.set_cons_zero, List.set_cons_succ]
    refine takeW 1 17 (.slice (some ⟨g, 0, none⟩) L.length c) rfl rfl (by kernel_rfl) (by kernel_rfl) (by kernel_rfl) (fun _ _ _ h => h) (by kernel_rfl) (by (intro Y hSw; obtain ⟨X0, X1⟩ := hSw; go_simp)) (by assumption) ?_
    simp only [List.set_cons_zero, List.set_cons_succ]
    refine takeW 2 18 (.pointer (some ⟨cb, 0, none⟩)) rfl rfl (by kernel_rfl) (by kernel_rfl) (by kernel_rfl) (fun _ _ _ h => h) (by kernel_rfl) (by (intro w hSw; go_simp)) (by assumption) ?_
    simp only [List.set_cons_zero, List.set_cons_succ]
    refine wpAnyH_all (rs := [3]) (by kernel_rfl) (by simp) ?_
    intro i hi; obtain rfl : i = 3 := by simpa using hi
    refine wpOp_step rfl (fun K hK => ?_)
    rw [if_pos (by kernel_rfl)]
    go_simp
    go_at_call 66
    refine (drawL7 u0 (D6.src hs) D6.cur.lt).mono ?_
    rintro e u1 ⟨z, rfl, s7, g7⟩
    have D6 := D6.step s7 g7
    have R6 := R6.grown g7 hRc
    have Q6 := Q6.grown g7 hQc
    have o6 := o6.grown g7 (by omega)
    have hT := Q6.at_
    clear s7 g7
    refine hK _ _ ⟨hT, ?_⟩
    clear hK K hi
    refine takeW 4 20 (.pointer (some ⟨g, 0, none⟩)) rfl rfl (by kernel_rfl) (by kernel_rfl) (by kernel_rfl) (fun _ _ _ h => h) (by kernel_rfl) (by (intro Y hSw; go_simp; intro e; exfalso; have h1_ := hL.1; rw [e] at h1_; simp at h1_)) (by assumption) ?_
    simp only [List.set_cons_zero, List.set_cons_succ]
    refine wpAnyH_all (rs := [5]) (by kernel_rfl) (by simp) ?_
    intro i hi; obtain rfl : i = 5 := by simpa using hi
    refine wpOp_step rfl (fun K hK => ?_)
    rw [if_pos (by kernel_rfl)]
    obtain ⟨t0, t1, t2, t3, t4, t5, t6, t7, t8, t9, t10⟩ : PtAtO u1 g 0 (L.getD 0 Pt.nil) := ptAtO_of (by have := o6.cell ptEnc_len Pt.nil (i := 0) (by omega); simpa using this)
    simp only [Nat.zero_add] at t0 t1 t2 t3 t4 t5 t6 t7 t8 t9 t10
    have ff := o6.frozen
    have f0 := ff 0
    have f1 := ff 1
    have f2 := ff 2
    have f3 := ff 3
    have f4 := ff 4
    have f5 := ff 5
    have f6 := ff 6
    have f7 := ff 7
    have f8 := ff 8
    have f9 := ff 9
    have f10 := ff 10
    have MS := o6.set ptEnc_len (by omega) (i := 0) (by omega) z
    rw [Nat.zero_mul, ptPut] at MS
    simp only [Nat.zero_add] at MS
    clear ff
    obtain ⟨uf, huf⟩ : ∃ y_, y_ = (((((((((((u1.setCell ⟨g, 0, none⟩ (.bool z.up)).setCell ⟨g, 1, none⟩ (.bool z.has)).setCell ⟨g, 2, none⟩ (.int .i64 z.r)).setCell ⟨g, 3, none⟩ (.int .i64 z.c)).setCell ⟨g, 4, none⟩ (.int .i64 z.b)).setCell ⟨g, 5, none⟩ (.int .i64 z.p)).setCell ⟨g, 6, none⟩ (.int .i64 z.h)).setCell ⟨g, 7, none⟩ (.int .i64 z.l)).setCell ⟨g, 8, none⟩ (.int .i64 z.ro)).setCell ⟨g, 9, none⟩ (.int .i64 z.wa)).setCell ⟨g, 10, none⟩ (.bool z.op)) := ⟨_, rfl⟩
    rw [← huf] at MS
    have Q7 : BBox uf Q id (.slice (some ⟨g, 0, none⟩) L.length c) := by rw [huf]; exact (((((((((((Q6.other (by omega)).other (by omega)).other (by omega)).other (by omega)).other (by omega)).other (by omega)).other (by omega)).other (by omega)).other (by omega)).other (by omega)).other (by omega))
    have R7 : BBox uf R 0 (.slice none 0 0) := by rw [huf]; exact (((((((((((R6.other (by omega)).other (by omega)).other (by omega)).other (by omega)).other (by omega)).other (by omega)).other (by omega)).other (by omega)).other (by omega)).other (by omega)).other (by omega))
    have D7 : DV w cb ad len cap uf := by rw [huf]; exact (((((((((((D6.set (by omega) hcb _).set (by omega) hcb _).set (by omega) hcb _).set (by omega) hcb _).set (by omega) hcb _).set (by omega) hcb _).set (by omega) hcb _).set (by omega) hcb _).set (by omega) hcb _).set (by omega) hcb _).set (by omega) hcb _)
    go_simp
    rw [← huf]
    clear huf t0 f0 t1 f1 t2 f2 t3 f3 t4 f4 t5 f5 t6 f6 t7 f7 t8 f8 t9 f9 t10 f10 D6 R6 Q6
    refine hK _ _ ⟨Q7.at_, ?_⟩
    clear hK K hi
    refine wpAnyH_done (by kernel_rfl) ?_ _
    obtain ⟨L6, hL6⟩ : ∃ L6, L6 = L.set 0 z := ⟨_, rfl⟩
    rw [← hL6] at MS
    have hl6 : Hid (L6.length = L.length) := by unfold Hid; rw [hL6, List.length_set]
    have MS2 : FOwn ptEnc 11 41 (R + 1) uf (.slice (some ⟨g, 0, none⟩) L6.length c) L6 := by rw [hl6.out]; exact MS
    clear hL6
    go_upto_region 9 with fail
    have RP := R7.put id (.slice (some ⟨g, 0, none⟩) L.length c)
    have DZ := (D7.set (N := R) (i := 0) (by omega) hcb (.int .i64 id)).set (N := R) (i := 1) (by omega) hcb (.slice (some ⟨g, 0, none⟩) L.length c)
    have OZ : FOwn ptEnc 11 41 w.heap.size ((uf.setCell ⟨R, 0, none⟩ (.int .i64 id)).setCell ⟨R, 1, none⟩ (.slice (some ⟨g, 0, none⟩) L.length c)) (.slice (some ⟨g, 0, none⟩) L.length c) L6 := ((MS.other (q := R) (i := 0) (u := .int .i64 id) (by omega)).other (q := R) (i := 1) (u := .slice (some ⟨g, 0, none⟩) L.length c) (by omega)).base (by omega)
    obtain ⟨⟨r0, r1⟩, rf⟩ := R7
    obtain ⟨⟨q0, q1⟩, qf⟩ := Q7
    obtain ⟨⟨p0, p1⟩, _⟩ := RP
    go_wp2
    refine bodyPost_ret (v := .agg #[.int .i64 id, .slice (some ⟨g, 0, none⟩) L.length c]) (by simp [results, Try.results34, go_sem, *]) rfl ⟨id, some ⟨g, 0, none⟩, c, L6, by rw [hl6.out], by rw [hl6.out]; omega, by rw [hl6.out]; exact OZ, DZ.src hs, DZ.gr⟩
  have e1 : (t == 1) = false := by simpa using h1
  by_cases h2 : t = 2
  · subst h2
    obtain ⟨y6, hy6⟩ : ∃ y_, y_ = y5.alloc (Obj.cells #[.bool false, .bool false, .int .i64 0, .int .i64 0, .int .i64 0, .int .i64 0, .int .i64 0, .int .i64 0, .int .i64 0, .int .i64 0, .bool false, .bool false, .bool false, .int .i64 0, .int .i64 0, .int .i64 0, .int .i64 0, .int .i64 0, .int .i64 0, .int .i64 0, .int .i64 0, .bool false] 41) := ⟨_, rfl⟩
    have kn : Below y5.heap.size y5 y6 := by rw [hy6]; exact below_new _
    have V1 : FView ptEnc y6 (some ⟨y5.heap.size, 0, none⟩) [Pt.nil, Pt.nil] := by
      intro _
      refine ⟨y5.heap.size, 0, rfl, fun j v hv => ?_⟩
      rw [hy6]
      have hj_ : j < 22 := by
        have := (List.getElem?_eq_some_iff.1 hv).1
        simpa [fcells, ptEnc] using this
      rcases (by omega : j = 0 ∨ j = 1 ∨ j = 2 ∨ j = 3 ∨ j = 4 ∨ j = 5 ∨ j = 6 ∨ j = 7 ∨ j = 8 ∨ j = 9 ∨ j = 10 ∨ j = 11 ∨ j = 12 ∨ j = 13 ∨ j = 14 ∨ j = 15 ∨ j = 16 ∨ j = 17 ∨ j = 18 ∨ j = 19 ∨ j = 20 ∨ j = 21) with rfl | rfl | rfl | rfl | rfl | rfl | rfl | rfl | rfl | rfl | rfl | rfl | rfl | rfl | rfl | rfl | rfl | rfl | rfl | rfl | rfl | rfl <;> (cases hv; simp [go_sem, Pt.nil])
    have D6 := D5.later8 kn
    have R6 := R5.below kn R5.lt
    have Q6 := Q5.below kn Q5.lt
    have o6 := o5.later kn
    have hcn := o5.capn
    have z6 := Q5.lt
    have cc_ := Q5
    obtain ⟨⟨q0, q1⟩, qf⟩ := cc_
    go_upto_region 8 with fail
    rw [hy6] at V1 D6 R6 Q6 o6
    go_wp2_with (first | (at_builtin; refine fappL ptEnc_len ptEnc_ones rfl _ _ 24 rfl (R + 1) 41 i0 (.agg #[.bool false, .bool false, .int .i64 0, .int .i64 0, .int .i64 0, .int .i64 0, .int .i64 0, .int .i64 0, .int .i64 0, .int .i64 0, .bool false]) 80 Try.underlying24 hi hz0 hz1 hz2 rfl (by decide) (by decide) (.slice a L.length c) L rfl o6 (some ⟨y5.heap.size, 0, none⟩) 2 [Pt.nil, Pt.nil] rfl (fun e => by cases e) V1 ?z0 ?z1 ?_) | go_in)
    case z0 => simp; omega
    case z1 => simp; omega
    intro vZ y7 o7 g7 ho7
    rw [← hy6] at g7 D6 R6 Q6 o6
    have z7 := g7.size
    obtain ⟨aZ, cZ, hvz⟩ := o7.open_
    obtain ⟨L6, hL6⟩ : ∃ L6, L6 = L ++ [Pt.nil, Pt.nil] := ⟨_, rfl⟩
    rw [← hL6] at o7 hvz
    have hl6 : 1 ≤ L6.length ∧ L6.length ≤ 6 := by rw [hL6, List.length_append]; simp; omega
    clear hL6
    subst hvz
    have j7 : ∀ g_, (Value.slice aZ L6.length cZ).ownBlock = some g_ → g_ ≠ Q := fun g_ e => by
      rcases ho7 with q | q
      · exact hj g_ (by rw [← q]; exact e)
      · rw [q] at e
        simp at e
        have := kn.size
        omega
    have D7 : DV w cb ad len cap y7 := ⟨D6.cur.carry (g7.block cb D6.cur.lt (fun e => by have := (o6.lt _ e.symm).1; omega)), D6.gr.os.symm ▸ g7.os, D6.gr.tape.symm ▸ g7.tape, D6.gr.output.symm ▸ g7.output, Nat.le_trans D6.gr.size g7.size, fun k hk hn => (g7.block k (by have := D6.gr.size; omega) (fun e => by have := (o6.lt _ e.symm).1; omega)).trans (D6.gr.block k hk hn)⟩
    have R7 := R6.keep (g7.block R R6.lt (fun e => by have := (o6.lt _ e.symm).1; omega))
    have Q7 := Q6.keep (g7.block Q Q6.lt (fun e => hj _ e.symm rfl))
    clear g7 o6 D6 R6 Q6 V1 hy6 ho7 q0 q1 qf
    obtain ⟨y8, hy8⟩ : ∃ y_, y_ = y7.setCell ⟨Q, 1, none⟩ (.slice aZ L6.length cZ) := ⟨_, rfl⟩
    have Q8 : BBox y8 Q id (.slice aZ L6.length cZ) := by rw [hy8]; exact ⟨⟨(pset_else (by decide)).trans Q7.at_.c0, pset_same Q7.at_.c1⟩, fun i => by rw [World.frozen?_setCell]; exact Q7.fr i⟩
    have D8 : DV w cb ad len cap y8 := by rw [hy8]; exact D7.set (by omega) hcb _
    have R8 : BBox y8 R 0 (.slice none 0 0) := by rw [hy8]; exact R7.other (by omega)
    have o8 : FOwn ptEnc 11 41 (R + 1) y8 (.slice aZ L6.length cZ) L6 := by rw [hy8]; exact o7.keep fun g_ e => Below.heap_setCell _ _ _ _ (by show g_ ≠ Q; exact j7 g_ e)
    obtain ⟨⟨q0, q1⟩, qf⟩ := Q7
    go_upto_region 9 with fail
    rw [← hy8]
    clear hy8 q0 q1 qf D7 R7 o7
    have RP := R8.put id (.slice aZ L6.length cZ)
    have DZ := (D8.set (N := R) (i := 0) (by omega) hcb (.int .i64 id)).set (N := R) (i := 1) (by omega) hcb (.slice aZ L6.length cZ)
    have OZ : FOwn ptEnc 11 41 w.heap.size ((y8.setCell ⟨R, 0, none⟩ (.int .i64 id)).setCell ⟨R, 1, none⟩ (.slice aZ L6.length cZ)) (.slice aZ L6.length cZ) L6 := ((o8.other (q := R) (i := 0) (u := .int .i64 id) (by omega)).other (q := R) (i := 1) (u := .slice aZ L6.length cZ) (by omega)).base (by omega)
    obtain ⟨⟨r0, r1⟩, rf⟩ := R8
    obtain ⟨⟨q0, q1⟩, qf⟩ := Q8
    obtain ⟨⟨p0, p1⟩, _⟩ := RP
    go_wp2
    refine bodyPost_ret (v := .agg #[.int .i64 id, .slice aZ L6.length cZ]) (by simp [results, Try.results34, go_sem, *]) rfl ⟨id, _, _, L6, rfl, hl6, OZ, DZ.src hs, DZ.gr⟩
  have e2 : (t == 2) = false := by simpa using h2
  go_upto_region 9 with fail
  have RP := R5.put id (.slice a L.length c)
  have DZ := (D5.set (N := R) (i := 0) (by omega) hcb (.int .i64 id)).set (N := R) (i := 1) (by omega) hcb (.slice a L.length c)
  have OZ : FOwn ptEnc 11 41 w.heap.size ((y5.setCell ⟨R, 0, none⟩ (.int .i64 id)).setCell ⟨R, 1, none⟩ (.slice a L.length c)) (.slice a L.length c) L := ((o5.other (q := R) (i := 0) (u := .int .i64 id) (by omega)).other (q := R) (i := 1) (u := .slice a L.length c) (by omega)).base (by omega)
  obtain ⟨⟨r0, r1⟩, rf⟩ := R5
  obtain ⟨⟨q0, q1⟩, qf⟩ := Q5
  obtain ⟨⟨p0, p1⟩, _⟩ := RP
  go_wp2
  refine bodyPost_ret (v := .agg #[.int .i64 id, .slice a L.length c]) (by simp [results, Try.results34, go_sem, *]) rfl ⟨id, _, _, L, rfl, ⟨hL.1, by omega⟩, OZ, DZ.src hs, DZ.gr⟩

end Go.Proofs.Ytbffdkjgadhdoaa
namespace Go.Proofs.Ytbffdkjgadhdoaa
open Go.ChangeShapes Go.WideShapes Go.ChangeAt Go.RowKit
open Go.ChangeMaps (open_string shut_string)
set_option linter.unusedVariables false
set_option maxRecDepth 100000

set_option maxHeartbeats 4000000 in
theorem drawRP (ad : Option Addr) (len cap : Nat) (f : Nat → Int) (w : World) (h : Code0 w ad len f) :
    Calls Try.prog 10 #[.slice ad len cap] w fun e w' => ∃ id ad' cap' L, e = .returned (.agg #[.int .i64 id, .slice ad' (List.length L) cap']) ∧ (1 ≤ List.length L ∧ List.length L ≤ 6) ∧ FOwn ptEnc 11 41 w.heap.size w' (.slice ad' (List.length L) cap') L ∧ Below w.heap.size w w' := by
  obtain ⟨R, hRe⟩ : ∃ R, R = w.heap.size := ⟨_, rfl⟩
  have hR : w.heap.size ≤ R := by omega
  obtain ⟨x0, hx0⟩ : ∃ y_, y_ = w.alloc (Obj.cells #[.int .i64 0, .slice none 0 0] 26) := ⟨_, rfl⟩
  have B0 : Below w.heap.size w x0 := by rw [hx0]; exact below_new _
  have R0 : BBox x0 R 0 (.slice none 0 0) := by rw [hx0, hRe]; exact BBox.new w _ _ _
  have h0 := h.later B0 (Nat.le_refl _)
  go_enter Try.func10, Try.ntmps10
  go_wp2_with fail
  go_at_call 35
  rw [← hx0, ← hRe]
  clear hx0 hRe
  refine (drawNew ad len cap f x0 h0.view h0.lt h0.small h0.bytes).mono ?_
  rintro e y1 ⟨rfl, s1, b1, z1⟩
  have R1 := R0.below b1 R0.lt
  have B1 := B0.trans (b1.mono B0.size)
  have hc1 : x0.heap.size < y1.heap.size := s1.cur.lt
  have hRl := R0.lt
  generalize hcb : x0.heap.size = cb at *
  have hbR : w.heap.size ≤ cb := by rw [← hcb]; exact B0.size
  have hRc : R ≠ cb := by omega
  clear R0 z1 hcb
  go_wp2_with fail
  go_at_call 34
  refine (drawL8 y1 s1 hc1).mono ?_
  rintro e y2 ⟨id, a, c, L, rfl, hL, o2, s2, g2⟩
  have R2 := R1.grown g2 hRc
  have B2 : Below w.heap.size w y2 := B1.grown g2 B1.size (fun k e => by simp at e; omega)
  have hc2 : cb < y2.heap.size := s2.cur.lt
  have z2 := g2.size
  have R1l := R1.lt
  clear R1 s1 g2 b1 B1
  have RP := R2.put id (.slice a L.length c)
  have BZ := (B2.setCell (p := ⟨R, 0, none⟩) (by show _ ≤ R; omega) (.int .i64 id)).setCell (p := ⟨R, 1, none⟩) (by show _ ≤ R; omega) (.slice a L.length c)
  have OZ : FOwn ptEnc 11 41 w.heap.size ((y2.setCell ⟨R, 0, none⟩ (.int .i64 id)).setCell ⟨R, 1, none⟩ (.slice a L.length c)) (.slice a L.length c) L := ((o2.other (q := R) (i := 0) (u := .int .i64 id) (by omega)).other (q := R) (i := 1) (u := .slice a L.length c) (by omega)).base (by omega)
  obtain ⟨⟨r0, r1⟩, rf⟩ := R2
  obtain ⟨⟨p0, p1⟩, _⟩ := RP
  go_wp2
  refine bodyPost_ret (v := .agg #[.int .i64 id, .slice a L.length c]) (by simp [results, Try.results10, go_sem, *]) rfl ⟨id, _, _, L, rfl, hL, OZ, BZ⟩
set_option maxHeartbeats 4000000 in
theorem drawHo (ad : Option Addr) (len cap : Nat) (f : Nat → Int) (w : World) (h : Code0 w ad len f) :
    Calls Try.prog 15 #[.slice ad len cap] w fun e w' => ∃ id ad' cap' L, e = .returned (.agg #[.int .i64 id, .slice ad' (List.length L) cap']) ∧ (1 ≤ List.length L ∧ List.length L ≤ 6) ∧ FOwn ptEnc 11 41 w.heap.size w' (.slice ad' (List.length L) cap') L ∧ Below w.heap.size w w' := by
  obtain ⟨R, hRe⟩ : ∃ R, R = w.heap.size := ⟨_, rfl⟩
  have hR : w.heap.size ≤ R := by omega
  obtain ⟨x0, hx0⟩ : ∃ y_, y_ = w.alloc (Obj.cells #[.int .i64 0, .slice none 0 0] 26) := ⟨_, rfl⟩
  have B0 : Below w.heap.size w x0 := by rw [hx0]; exact below_new _
  have R0 : BBox x0 R 0 (.slice none 0 0) := by rw [hx0, hRe]; exact BBox.new w _ _ _
  have h0 := h.later B0 (Nat.le_refl _)
  go_enter Try.func15, Try.ntmps15
  go_wp2_with fail
  go_at_call 35
  rw [← hx0, ← hRe]
  clear hx0 hRe
  refine (drawNew ad len cap f x0 h0.view h0.lt h0.small h0.bytes).mono ?_
  rintro e y1 ⟨rfl, s1, b1, z1⟩
  have R1 := R0.below b1 R0.lt
  have B1 := B0.trans (b1.mono B0.size)
  have hc1 : x0.heap.size < y1.heap.size := s1.cur.lt
  have hRl := R0.lt
  generalize hcb : x0.heap.size = cb at *
  have hbR : w.heap.size ≤ cb := by rw [← hcb]; exact B0.size
  have hRc : R ≠ cb := by omega
  clear R0 z1 hcb
  go_wp2_with fail
  go_at_call 34
  refine (drawL8 y1 s1 hc1).mono ?_
  rintro e y2 ⟨id, a, c, L, rfl, hL, o2, s2, g2⟩
  have R2 := R1.grown g2 hRc
  have B2 : Below w.heap.size w y2 := B1.grown g2 B1.size (fun k e => by simp at e; omega)
  have hc2 : cb < y2.heap.size := s2.cur.lt
  have z2 := g2.size
  have R1l := R1.lt
  clear R1 s1 g2 b1 B1
  have RP := R2.put id (.slice a L.length c)
  have BZ := (B2.setCell (p := ⟨R, 0, none⟩) (by show _ ≤ R; omega) (.int .i64 id)).setCell (p := ⟨R, 1, none⟩) (by show _ ≤ R; omega) (.slice a L.length c)
  have OZ : FOwn ptEnc 11 41 w.heap.size ((y2.setCell ⟨R, 0, none⟩ (.int .i64 id)).setCell ⟨R, 1, none⟩ (.slice a L.length c)) (.slice a L.length c) L := ((o2.other (q := R) (i := 0) (u := .int .i64 id) (by omega)).other (q := R) (i := 1) (u := .slice a L.length c) (by omega)).base (by omega)
  obtain ⟨⟨r0, r1⟩, rf⟩ := R2
  obtain ⟨⟨p0, p1⟩, _⟩ := RP
  go_wp2
  refine bodyPost_ret (v := .agg #[.int .i64 id, .slice a L.length c]) (by simp [results, Try.results15, go_sem, *]) rfl ⟨id, _, _, L, rfl, hL, OZ, BZ⟩
set_option maxHeartbeats 4000000 in
theorem drawOw (ad : Option Addr) (len cap : Nat) (f : Nat → Int) (w : World) (h : Code0 w ad len f) :
    Calls Try.prog 13 #[.slice ad len cap] w fun e w' => ∃ id ad' cap' L, (∃ p : Int, (-1 ≤ p ∧ p ≤ 6) ∧ e = .returned (.tuple #[.agg #[.int .i64 id, .slice ad' (List.length L) cap'], .int .i64 p])) ∧ (1 ≤ List.length L ∧ List.length L ≤ 6) ∧ FOwn ptEnc 11 41 w.heap.size w' (.slice ad' (List.length L) cap') L ∧ Below w.heap.size w w' := by
  obtain ⟨R, hRe⟩ : ∃ R, R = w.heap.size := ⟨_, rfl⟩
  have hR : w.heap.size ≤ R := by omega
  obtain ⟨x0, hx0⟩ : ∃ y_, y_ = w.alloc (Obj.cells #[.int .i64 0, .slice none 0 0] 26) := ⟨_, rfl⟩
  have B0 : Below w.heap.size w x0 := by rw [hx0]; exact below_new _
  have R0 : BBox x0 R 0 (.slice none 0 0) := by rw [hx0, hRe]; exact BBox.new w _ _ _
  have h0 := h.later B0 (Nat.le_refl _)
  go_enter Try.func13, Try.ntmps13
  go_wp2_with fail
  go_at_call 35
  rw [← hx0, ← hRe]
  clear hx0 hRe
  refine (drawNew ad len cap f x0 h0.view h0.lt h0.small h0.bytes).mono ?_
  rintro e y1 ⟨rfl, s1, b1, z1⟩
  have R1 := R0.below b1 R0.lt
  have B1 := B0.trans (b1.mono B0.size)
  have hc1 : x0.heap.size < y1.heap.size := s1.cur.lt
  have hRl := R0.lt
  generalize hcb : x0.heap.size = cb at *
  have hbR : w.heap.size ≤ cb := by rw [← hcb]; exact B0.size
  have hRc : R ≠ cb := by omega
  clear R0 z1 hcb
  go_wp2_with fail
  go_at_call 34
  refine (drawL8 y1 s1 hc1).mono ?_
  rintro e y2 ⟨id, a, c, L, rfl, hL, o2, s2, g2⟩
  have R2 := R1.grown g2 hRc
  have B2 : Below w.heap.size w y2 := B1.grown g2 B1.size (fun k e => by simp at e; omega)
  have hc2 : cb < y2.heap.size := s2.cur.lt
  have z2 := g2.size
  have R1l := R1.lt
  clear R1 s1 g2 b1 B1
  obtain ⟨y4, hy4⟩ : ∃ y_, y_ = y2.alloc (Obj.cells #[.int .i64 id, .slice a L.length c] 26) := ⟨_, rfl⟩
  have kn : Below y2.heap.size y2 y4 := by rw [hy4]; exact below_new _
  have Q4 : BBox y4 y2.heap.size id (.slice a L.length c) := by rw [hy4]; exact BBox.new y2 _ _ _
  have s4 := s2.later kn
  have R4 := R2.below kn R2.lt
  have B4 := B2.trans (kn.mono B2.size)
  have og : ∀ g_, (Value.slice a L.length c).ownBlock = some g_ → y1.heap.size ≤ g_ ∧ g_ < y2.heap.size := fun g_ e => o2.lt g_ e
  have o4 := o2.later kn
  go_upto_region 3 with fail
  rw [← hy4]
  clear hy4 kn s2 R2 B2 o2
  generalize y2.heap.size = Q at Q4 og hc2 z2 ⊢
  have hQc : Q ≠ cb := by omega
  have hj : ∀ g_, (Value.slice a L.length c).ownBlock = some g_ → g_ ≠ Q := fun g_ e => by have := og g_ e; omega
  refine wp_region_held (S := fun _ => True) (by kernel_rfl) ?_
  change wpAnyH _ _ _ _ _ _ _ _ (World.drew _)
  have s6 : Src y4.drew cb ad len cap f := s4.later (Below.refl _ _).drew
  have R6 : BBox y4.drew R 0 (.slice none 0 0) := R4.keep rfl
  have Q6 : BBox y4.drew Q id (.slice a L.length c) := Q4.keep rfl
  have o6 : FOwn ptEnc 11 41 y1.heap.size y4.drew (.slice a L.length c) L := o4.keep (fun _ _ => rfl)
  have B6 := B4.drew
  obtain ⟨u0, hu0⟩ : ∃ y_, y_ = y4.drew := ⟨_, rfl⟩
  rw [← hu0] at s6 R6 Q6 o6 B6 ⊢
  clear hu0 s4 R4 Q4 o4 B4
  have hT : True := trivial
  refine takeW 1 11 (.pointer (some ⟨cb, 0, none⟩)) rfl rfl (by kernel_rfl) (by kernel_rfl) (by kernel_rfl) (fun _ _ _ h => h) (by kernel_rfl) (by (intro w hSw; go_simp)) (by assumption) ?_
  simp only [List.set_cons_zero, List.set_cons_succ]
  refine wpAnyH_all (rs := [0, 2]) (by kernel_rfl) (by simp) ?_
  intro i hi; rcases (by simpa using hi : i = 0 ∨ i = 2) with rfl | rfl
  · refine wpOp_step rfl (fun K hK => ?_)
    rw [if_pos (by kernel_rfl)]
    have cc_ := Q6
    obtain ⟨⟨t0_, t1_⟩, tf_⟩ := cc_
    go_simp
    clear t0_ t1_ tf_
    refine hK _ _ ⟨trivial, ?_⟩
    clear hK K hi
    refine wpAnyH_all (rs := [2]) (by kernel_rfl) (by simp) ?_
    intro i hi; obtain rfl : i = 2 := by simpa using hi
    refine wpOp_step rfl (fun K hK => ?_)
    rw [if_pos (by kernel_rfl)]
    go_simp
    go_at_call 38
    refine (drawBelow s6 6 (by decide) (by decide)).mono ?_
    rintro e u1 ⟨x, rfl, x0_, x1_, s7, g7⟩
    have R6 := R6.grown g7 hRc
    have Q6 := Q6.grown g7 hQc
    have o6 := o6.grown g7 (by omega)
    have B6 : Below w.heap.size w u1 := B6.grown g7 B6.size (fun k e => by simp at e; omega)
    clear s7 g7
    refine hK _ _ ⟨trivial, ?_⟩
    clear hK K hi
    have hwx : IntKind.i64.wrap (x - 1) = x - 1 := by rw [IntKind.wrap_i64]; omega
    refine takeW 3 13 (.int .i64 (x - 1)) rfl rfl (by kernel_rfl) (by kernel_rfl) (by kernel_rfl) (fun _ _ _ h => h) (by kernel_rfl) (by (intro w hSw; go_simp)) (by assumption) ?_
    simp only [List.set_cons_zero, List.set_cons_succ]
    refine wpAnyH_all (rs := [4]) (by kernel_rfl) (by simp) ?_
    intro i hi; obtain rfl : i = 4 := by simpa using hi
    refine wpOp_step rfl (fun K hK => ?_)
    rw [if_pos (by kernel_rfl)]
    have RP := R6.put id (.slice a L.length c)
    have BZ := (B6.setCell (p := ⟨R, 0, none⟩) (by show _ ≤ R; omega) (.int .i64 id)).setCell (p := ⟨R, 1, none⟩) (by show _ ≤ R; omega) (.slice a L.length c)
    have OZ : FOwn ptEnc 11 41 w.heap.size ((u1.setCell ⟨R, 0, none⟩ (.int .i64 id)).setCell ⟨R, 1, none⟩ (.slice a L.length c)) (.slice a L.length c) L := ((o6.other (q := R) (i := 0) (u := .int .i64 id) (by omega)).other (q := R) (i := 1) (u := .slice a L.length c) (by omega)).base (by omega)
    obtain ⟨⟨r0, r1⟩, rf⟩ := R6
    go_simp
    clear r0 r1 rf
    refine hK _ _ ⟨trivial, ?_⟩
    clear hK K hi
    refine takeW 5 3 (.int .i64 (x - 1)) rfl rfl (by kernel_rfl) (by kernel_rfl) (by kernel_rfl) (fun _ _ _ h => h) (by kernel_rfl) (by (intro w hSw; go_simp)) (by assumption) ?_
    simp only [List.set_cons_zero, List.set_cons_succ]
    refine wpAnyH_done (by kernel_rfl) ?_ _
    obtain ⟨⟨p0, p1⟩, _⟩ := RP
    go_wp2
    refine bodyPost_ret (v := .tuple #[.agg #[.int .i64 id, .slice a L.length c], .int .i64 (x - 1)]) (by simp [results, Try.results13, go_sem, *]) rfl ⟨id, _, _, L, ⟨x - 1, by omega, rfl⟩, hL, OZ, BZ⟩
  · refine wpOp_step rfl (fun K hK => ?_)
    rw [if_pos (by kernel_rfl)]
    go_simp
    go_at_call 38
    refine (drawBelow s6 6 (by decide) (by decide)).mono ?_
    rintro e u1 ⟨x, rfl, x0_, x1_, s7, g7⟩
    have R6 := R6.grown g7 hRc
    have Q6 := Q6.grown g7 hQc
    have o6 := o6.grown g7 (by omega)
    have B6 : Below w.heap.size w u1 := B6.grown g7 B6.size (fun k e => by simp at e; omega)
    clear s7 g7
    refine hK _ _ ⟨trivial, ?_⟩
    clear hK K hi
    have hwx : IntKind.i64.wrap (x - 1) = x - 1 := by rw [IntKind.wrap_i64]; omega
    refine takeW 3 13 (.int .i64 (x - 1)) rfl rfl (by kernel_rfl) (by kernel_rfl) (by kernel_rfl) (fun _ _ _ h => h) (by kernel_rfl) (by (intro w hSw; go_simp)) (by assumption) ?_
    simp only [List.set_cons_zero, List.set_cons_succ]
    refine wpAnyH_all (rs := [0]) (by kernel_rfl) (by simp) ?_
    intro i hi; obtain rfl : i = 0 := by simpa using hi
    refine wpOp_step rfl (fun K hK => ?_)
    rw [if_pos (by kernel_rfl)]
    have cc_ := Q6
    obtain ⟨⟨t0_, t1_⟩, tf_⟩ := cc_
    go_simp
    clear t0_ t1_ tf_
    refine hK _ _ ⟨trivial, ?_⟩
    clear hK K hi
    refine wpAnyH_all (rs := [4]) (by kernel_rfl) (by simp) ?_
    intro i hi; obtain rfl : i = 4 := by simpa using hi
    refine wpOp_step rfl (fun K hK => ?_)
    rw [if_pos (by kernel_rfl)]
    have RP := R6.put id (.slice a L.length c)
    have BZ := (B6.setCell (p := ⟨R, 0, none⟩) (by show _ ≤ R; omega) (.int .i64 id)).setCell (p := ⟨R, 1, none⟩) (by show _ ≤ R; omega) (.slice a L.length c)
    have OZ : FOwn ptEnc 11 41 w.heap.size ((u1.setCell ⟨R, 0, none⟩ (.int .i64 id)).setCell ⟨R, 1, none⟩ (.slice a L.length c)) (.slice a L.length c) L := ((o6.other (q := R) (i := 0) (u := .int .i64 id) (by omega)).other (q := R) (i := 1) (u := .slice a L.length c) (by omega)).base (by omega)
    obtain ⟨⟨r0, r1⟩, rf⟩ := R6
    go_simp
    clear r0 r1 rf
    refine hK _ _ ⟨trivial, ?_⟩
    clear hK K hi
    refine takeW 5 3 (.int .i64 (x - 1)) rfl rfl (by kernel_rfl) (by kernel_rfl) (by kernel_rfl) (fun _ _ _ h => h) (by kernel_rfl) (by (intro w hSw; go_simp)) (by assumption) ?_
    simp only [List.set_cons_zero, List.set_cons_succ]
    refine wpAnyH_done (by kernel_rfl) ?_ _
    obtain ⟨⟨p0, p1⟩, _⟩ := RP
    go_wp2
    refine bodyPost_ret (v := .tuple #[.agg #[.int .i64 id, .slice a L.length c], .int .i64 (x - 1)]) (by simp [results, Try.results13, go_sem, *]) rfl ⟨id, _, _, L, ⟨x - 1, by omega, rfl⟩, hL, OZ, BZ⟩
set_option maxHeartbeats 4000000 in
theorem drawDe (ad : Option Addr) (len cap : Nat) (f : Nat → Int) (w : World) (h : Code0 w ad len f) :
    Calls Try.prog 14 #[.slice ad len cap] w fun e w' => ∃ id ad' cap' L, e = .returned (.agg #[.int .i64 id, .slice ad' (List.length L) cap']) ∧ (1 ≤ List.length L ∧ List.length L ≤ 6) ∧ FOwn ptEnc 11 41 w.heap.size w' (.slice ad' (List.length L) cap') L ∧ Below w.heap.size w w' := by
  obtain ⟨R, hRe⟩ : ∃ R, R = w.heap.size := ⟨_, rfl⟩
  have hR : w.heap.size ≤ R := by omega
  obtain ⟨x0, hx0⟩ : ∃ y_, y_ = w.alloc (Obj.cells #[.int .i64 0, .slice none 0 0] 26) := ⟨_, rfl⟩
  have B0 : Below w.heap.size w x0 := by rw [hx0]; exact below_new _
  have R0 : BBox x0 R 0 (.slice none 0 0) := by rw [hx0, hRe]; exact BBox.new w _ _ _
  have h0 := h.later B0 (Nat.le_refl _)
  go_enter Try.func14, Try.ntmps14
  go_wp2_with fail
  go_at_call 35
  rw [← hx0, ← hRe]
  clear hx0 hRe
  refine (drawNew ad len cap f x0 h0.view h0.lt h0.small h0.bytes).mono ?_
  rintro e y1 ⟨rfl, s1, b1, z1⟩
  have R1 := R0.below b1 R0.lt
  have B1 := B0.trans (b1.mono B0.size)
  have hc1 : x0.heap.size < y1.heap.size := s1.cur.lt
  have hRl := R0.lt
  generalize hcb : x0.heap.size = cb at *
  have hbR : w.heap.size ≤ cb := by rw [← hcb]; exact B0.size
  have hRc : R ≠ cb := by omega
  clear R0 z1 hcb
  go_wp2_with fail
  go_at_call 34
  refine (drawL8 y1 s1 hc1).mono ?_
  rintro e y2 ⟨id, a, c, L, rfl, hL, o2, s2, g2⟩
  have R2 := R1.grown g2 hRc
  have B2 : Below w.heap.size w y2 := B1.grown g2 B1.size (fun k e => by simp at e; omega)
  have hc2 : cb < y2.heap.size := s2.cur.lt
  have z2 := g2.size
  have R1l := R1.lt
  clear R1 s1 g2 b1 B1
  obtain ⟨y4, hy4⟩ : ∃ y_, y_ = y2.alloc (Obj.cells #[.int .i64 id, .slice a L.length c] 26) := ⟨_, rfl⟩
  have kn : Below y2.heap.size y2 y4 := by rw [hy4]; exact below_new _
  have Q4 : BBox y4 y2.heap.size id (.slice a L.length c) := by rw [hy4]; exact BBox.new y2 _ _ _
  have s4 := s2.later kn
  have R4 := R2.below kn R2.lt
  have B4 := B2.trans (kn.mono B2.size)
  have og : ∀ g_, (Value.slice a L.length c).ownBlock = some g_ → y1.heap.size ≤ g_ ∧ g_ < y2.heap.size := fun g_ e => o2.lt g_ e
  have o4 := o2.later kn
  go_upto_region 3 with fail
  rw [← hy4]
  clear hy4 kn s2 R2 B2 o2
  generalize y2.heap.size = Q at Q4 og hc2 z2 ⊢
  have hQc : Q ≠ cb := by omega
  have hj : ∀ g_, (Value.slice a L.length c).ownBlock = some g_ → g_ ≠ Q := fun g_ e => by have := og g_ e; omega
  go_wp2_with fail
  go_at_call 39
  refine (drawOnce s4 2 (by decide) (by decide)).mono ?_
  rintro e y5 ⟨bo, rfl, s5, g5⟩
  have R5 := R4.grown g5 hRc
  have Q5 := Q4.grown g5 hQc
  have o5 := o4.grown g5 (by omega)
  have B5 : Below w.heap.size w y5 := B4.grown g5 B4.size (fun k e => by simp at e; omega)
  clear s4 g5 R4 Q4 o4 B4
  cases bo
  · go_upto_region 5 with fail
    have RP := R5.put id (.slice a L.length c)
    have BZ := (B5.setCell (p := ⟨R, 0, none⟩) (by show _ ≤ R; omega) (.int .i64 id)).setCell (p := ⟨R, 1, none⟩) (by show _ ≤ R; omega) (.slice a L.length c)
    have OZ : FOwn ptEnc 11 41 w.heap.size ((y5.setCell ⟨R, 0, none⟩ (.int .i64 id)).setCell ⟨R, 1, none⟩ (.slice a L.length c)) (.slice a L.length c) L := ((o5.other (q := R) (i := 0) (u := .int .i64 id) (by omega)).other (q := R) (i := 1) (u := .slice a L.length c) (by omega)).base (by omega)
    obtain ⟨⟨r0, r1⟩, rf⟩ := R5
    obtain ⟨⟨p0, p1⟩, _⟩ := RP
    obtain ⟨⟨q0, q1⟩, qf⟩ := Q5
    go_wp2
    refine bodyPost_ret (v := .agg #[.int .i64 id, .slice a L.length c]) (by simp [results, Try.results14, go_sem, *]) rfl ⟨id, _, _, L, rfl, hL, OZ, BZ⟩
  · obtain ⟨g, rfl, hg1, hg2⟩ := o5.row (by omega)
    have hgQ : g ≠ Q := hj g rfl
    go_upto_region 4 with fail
    refine wp_region_held (S := fun Y => BrAt Y Q id (.slice (some ⟨g, 0, none⟩) L.length c)) (by kernel_rfl) ?_
    change wpAnyH _ _ _ _ _ _ _ _ (World.drew _)
    have s6 : Src y5.drew cb ad len cap f := s5.later (Below.refl _ _).drew
    have R6 : BBox y5.drew R 0 (.slice none 0 0) := R5.keep rfl
    have Q6 : BBox y5.drew Q id (.slice (some ⟨g, 0, none⟩) L.length c) := Q5.keep rfl
    have o6 : FOwn ptEnc 11 41 y1.heap.size y5.drew (.slice (some ⟨g, 0, none⟩) L.length c) L := o5.keep (fun _ _ => rfl)
    have B6 := B5.drew
    obtain ⟨u0, hu0⟩ : ∃ y_, y_ = y5.drew := ⟨_, rfl⟩
    rw [← hu0] at s6 R6 Q6 o6 B6 ⊢
    clear hu0 s5 R5 Q5 o5 B5
    have hT := Q6.at_
    refine takeW 0 11 (.pointer (some ⟨Q, 1, none⟩)) rfl rfl (by kernel_rfl) (by kernel_rfl) (by kernel_rfl) (fun _ _ _ h => h) (by kernel_rfl) (by (intro w hSw; go_simp)) (by assumption) ?_
    simp only [List.set_cons_zero, List.set_cons_succ]
    refine takeW 1 12 (.slice (some ⟨g, 0, none⟩) L.length c) rfl rfl (by kernel_rfl) (by kernel_rfl) (by kernel_rfl) (fun _ _ _ h => h) (by kernel_rfl) (by (intro Y hSw; obtain ⟨X0, X1⟩ := hSw; go_simp)) (by assumption) ?_
    simp only [List.set_cons_zero, List.set_cons_succ]
    refine takeW 2 13 (.pointer (some ⟨cb, 0, none⟩)) rfl rfl (by kernel_rfl) (by kernel_rfl) (by kernel_rfl) (fun _ _ _ h => h) (by kernel_rfl) (by (intro w hSw; go_simp)) (by assumption) ?_
    simp only [List.set_cons_zero, List.set_cons_succ]
    refine wpAnyH_all (rs := [3]) (by kernel_rfl) (by simp) ?_
    intro i hi; obtain rfl : i = 3 := by simpa using hi
    refine wpOp_step rfl (fun K hK => ?_)
    rw [if_pos (by kernel_rfl)]
    go_simp
    go_at_call 40
    refine (drawR7 u0 s6 s6.cur.lt).mono ?_
    rintro e u1 ⟨z, rfl, s7, g7⟩
    have R6 := R6.grown g7 hRc
    have Q6 := Q6.grown g7 hQc
    have o6 := o6.grown g7 (by omega)
    have B6 : Below w.heap.size w u1 := B6.grown g7 B6.size (fun k e => by simp at e; omega)
    have hT := Q6.at_
    clear s7 g7
    refine hK _ _ ⟨hT, ?_⟩
    clear hK K hi
    refine takeW 4 15 (.pointer (some ⟨g, 0, none⟩)) rfl rfl (by kernel_rfl) (by kernel_rfl) (by kernel_rfl) (fun _ _ _ h => h) (by kernel_rfl) (by (intro Y hSw; go_simp; intro e; exfalso; have h1_ := hL.1; rw [e] at h1_; simp at h1_)) (by assumption) ?_
    simp only [List.set_cons_zero, List.set_cons_succ]
    refine wpAnyH_all (rs := [5]) (by kernel_rfl) (by simp) ?_
    intro i hi; obtain rfl : i = 5 := by simpa using hi
    refine wpOp_step rfl (fun K hK => ?_)
    rw [if_pos (by kernel_rfl)]
    obtain ⟨t0, t1, t2, t3, t4, t5, t6, t7, t8, t9, t10⟩ : PtAtO u1 g 0 (L.getD 0 Pt.nil) := ptAtO_of (by have := o6.cell ptEnc_len Pt.nil (i := 0) (by omega); simpa using this)
    simp only [Nat.zero_add] at t0 t1 t2 t3 t4 t5 t6 t7 t8 t9 t10
    have ff := o6.frozen
    have f0 := ff 0
    have f1 := ff 1
    have f2 := ff 2
    have f3 := ff 3
    have f4 := ff 4
    have f5 := ff 5
    have f6 := ff 6
    have f7 := ff 7
    have f8 := ff 8
    have f9 := ff 9
    have f10 := ff 10
    have MS := o6.set ptEnc_len (by omega) (i := 0) (by omega) z
    rw [Nat.zero_mul, ptPut] at MS
    simp only [Nat.zero_add] at MS
    clear ff
    have BB := below_putAll (B := w.heap.size) (show w.heap.size ≤ g by omega) (ptEnc z) 0 B6
    rw [ptPut] at BB
    simp only [Nat.zero_add] at BB
    obtain ⟨uf, huf⟩ : ∃ y_, y_ = (((((((((((u1.setCell ⟨g, 0, none⟩ (.bool z.up)).setCell ⟨g, 1, none⟩ (.bool z.has)).setCell ⟨g, 2, none⟩ (.int .i64 z.r)).setCell ⟨g, 3, none⟩ (.int .i64 z.c)).setCell ⟨g, 4, none⟩ (.int .i64 z.b)).setCell ⟨g, 5, none⟩ (.int .i64 z.p)).setCell ⟨g, 6, none⟩ (.int .i64 z.h)).setCell ⟨g, 7, none⟩ (.int .i64 z.l)).setCell ⟨g, 8, none⟩ (.int .i64 z.ro)).setCell ⟨g, 9, none⟩ (.int .i64 z.wa)).setCell ⟨g, 10, none⟩ (.bool z.op)) := ⟨_, rfl⟩
    rw [← huf] at MS BB
    have Q7 : BBox uf Q id (.slice (some ⟨g, 0, none⟩) L.length c) := by rw [huf]; exact (((((((((((Q6.other (by omega)).other (by omega)).other (by omega)).other (by omega)).other (by omega)).other (by omega)).other (by omega)).other (by omega)).other (by omega)).other (by omega)).other (by omega))
    have R7 : BBox uf R 0 (.slice none 0 0) := by rw [huf]; exact (((((((((((R6.other (by omega)).other (by omega)).other (by omega)).other (by omega)).other (by omega)).other (by omega)).other (by omega)).other (by omega)).other (by omega)).other (by omega)).other (by omega))
    go_simp
    rw [← huf]
    clear huf t0 f0 t1 f1 t2 f2 t3 f3 t4 f4 t5 f5 t6 f6 t7 f7 t8 f8 t9 f9 t10 f10 R6 Q6
    refine hK _ _ ⟨Q7.at_, ?_⟩
    clear hK K hi
    refine wpAnyH_done (by kernel_rfl) ?_ _
    obtain ⟨L6, hL6⟩ : ∃ L6, L6 = L.set 0 z := ⟨_, rfl⟩
    rw [← hL6] at MS
    have hl6 : Hid (L6.length = L.length) := by unfold Hid; rw [hL6, List.length_set]
    clear hL6
    go_upto_region 5 with fail
    have RP := R7.put id (.slice (some ⟨g, 0, none⟩) L.length c)
    have BZ := (BB.setCell (p := ⟨R, 0, none⟩) (by show _ ≤ R; omega) (.int .i64 id)).setCell (p := ⟨R, 1, none⟩) (by show _ ≤ R; omega) (.slice (some ⟨g, 0, none⟩) L.length c)
    have OZ : FOwn ptEnc 11 41 w.heap.size ((uf.setCell ⟨R, 0, none⟩ (.int .i64 id)).setCell ⟨R, 1, none⟩ (.slice (some ⟨g, 0, none⟩) L.length c)) (.slice (some ⟨g, 0, none⟩) L.length c) L6 := ((MS.other (q := R) (i := 0) (u := .int .i64 id) (by omega)).other (q := R) (i := 1) (u := .slice (some ⟨g, 0, none⟩) L.length c) (by omega)).base (by omega)
    obtain ⟨⟨r0, r1⟩, rf⟩ := R7
    obtain ⟨⟨p0, p1⟩, _⟩ := RP
    obtain ⟨⟨q0, q1⟩, qf⟩ := Q7
    go_wp2
    refine bodyPost_ret (v := .agg #[.int .i64 id, .slice (some ⟨g, 0, none⟩) L.length c]) (by simp [results, Try.results14, go_sem, *]) rfl ⟨id, some ⟨g, 0, none⟩, c, L6, by rw [hl6.out], by rw [hl6.out]; exact hL, by rw [hl6.out]; exact OZ, BZ⟩

end Go.Proofs.Ytbffdkjgadhdoaa
namespace Go.Proofs.Ytbffdkjgadhdoaa
open Go.ChangeShapes Go.WideShapes Go.ChangeAt Go.RowKit
open Go.ChangeMaps (open_string shut_string)
set_option linter.unusedVariables false
set_option maxRecDepth 100000

/-- A bridge, n ticks later. -/
def itT (id : Int) (L : List Pt) : Nat → List Pt
  | 0 => L
  | n + 1 => tickR id (itT id L n)
theorem itT_ok {id : Int} {L : List Pt} (h : bOk id L = true) (n : Nat) : bOk id (itT id L n) = true := by
  induction n with
  | zero => exact h
  | succ n ih => exact tickR_ok ih
theorem itT_len (id : Int) (L : List Pt) (n : Nat) : (itT id L n).length = L.length := by
  induction n with
  | zero => rfl
  | succ n ih => rw [itT, tickR_len, ih]
theorem react_tick {id : Int} {L : List Pt} (h : bOk id L = true) : reactL id L ⟨2, 0, 0, 0, 0, 0, 0, false⟩ = tickR id L := by
  have hl := (bOk_all h).2.1
  have hg : goes id L ⟨2, 0, 0, 0, 0, 0, 0, false⟩ = true := by
    unfold goes
    rw [h, show inOk ⟨2, 0, 0, 0, 0, 0, 0, false⟩ = true by decide, decide_eq_true (by constructor <;> simp; omega)]
    rfl
  unfold reactL
  rw [hg]
  rfl
theorem root_none {id : Int} {L : List Pt} (h : ∀ i, i < L.length → (L.getD i Pt.nil).has = false) : rootO id L = none := by
  cases hr : rootO id L with
  | none => rfl
  | some k =>
    obtain ⟨_, hk, hc⟩ := rootO_some hr
    simp only [cand, Bool.and_eq_true] at hc
    rw [h k hk] at hc
    cases hc.1
theorem own_none {id : Int} {L : List Pt} (hb : bOk id L = true) (hr : rootO id L = none) : ownR id L 0 = (id, 0, id, 0) := by
  have hl := (bOk_all hb).2.1
  unfold ownR
  rw [hb, decide_eq_true (by constructor <;> simp; omega), hr]
  rfl

end Go.Proofs.Ytbffdkjgadhdoaa
namespace Go.Proofs.Ytbffdkjgadhdoaa
open Go.ChangeShapes Go.WideShapes Go.ChangeAt Go.RowKit
open Go.ChangeMaps (open_string shut_string)
set_option linter.unusedVariables false
set_option maxRecDepth 100000

def boEnc (b : Bool) : List Value := [.bool b]
theorem boEnc_len (b : Bool) : (boEnc b).length = 1 := rfl
theorem boEnc_ones (L : List Bool) : ∀ u ∈ fcells boEnc L, u.oneCell' = true := by
  induction L with
  | nil => intro u h; cases h
  | cons x L ih =>
    intro u h
    simp only [fcells, boEnc, List.mem_append, List.mem_cons, List.not_mem_nil, or_false] at h
    rcases h with rfl | h
    · rfl
    · exact ih u h
theorem boInfo : (Try.prog.info? 4).map (fun i => (i.zero, i.size, i.bytes)) = some (some (.bool false), 1, 1) := by kernel_rfl
theorem FView.oneB (w : World) (t : TypeId) (b : Bool) : FView boEnc (w.alloc (Obj.cells #[.bool b] t)) (some ⟨w.heap.size, 0, none⟩) [b] := by
  intro _
  refine ⟨w.heap.size, 0, rfl, fun j v hv => ?_⟩
  have hj : j < 1 := by
    have := (List.getElem?_eq_some_iff.1 hv).1
    simpa [fcells, boEnc] using this
  obtain rfl : j = 0 := by omega
  cases hv
  simp [go_sem]
/-- Which ports were shut for a ring. -/
def shutL (L : List Pt) : List Bool := L.map fun x => x.ro == 3
def shutTo (L : List Pt) (k : Nat) : List Bool := (List.range k).map fun i => ((L.getD i Pt.nil).ro == 3)
theorem shutTo_succ (L : List Pt) (k : Nat) : shutTo L (k + 1) = shutTo L k ++ [((L.getD k Pt.nil).ro == 3)] := by
  unfold shutTo
  rw [List.range_succ, List.map_append]
  rfl
theorem shutTo_len (L : List Pt) (k : Nat) : (shutTo L k).length = k := by simp [shutTo]
theorem shutTo_at (L : List Pt) {k i : Nat} (h : i < k) : (shutTo L k).getD i false = ((L.getD i Pt.nil).ro == 3) := by
  simp [shutTo, List.getD, h]
/-- What was shut for a ring is shut k ticks behind. -/
theorem waits_shut {id : Int} {A : List Pt} (hb : bOk id A = true) {i : Nat} (hi : i < A.length) (hs : (A.getD i Pt.nil).ro = 3) : ∀ k : Nat, k ≤ 4 → shutFor (5 - (k : Int)) ((itT id A k).getD i Pt.nil) := by
  intro k
  induction k with
  | zero => intro _; exact .inl hs
  | succ k ih =>
    intro hk
    have h1 := ih (by omega)
    have h2 := tickR_shut (itT_ok hb k) (m := 5 - ((k + 1 : Nat) : Int)) (by omega) (by omega) (i := i) (by rw [itT_len]; exact hi) (by rw [show (5 - ((k + 1 : Nat) : Int)) + 1 = 5 - (k : Int) by omega]; exact h1)
    exact h2
theorem waits_not {id : Int} {A : List Pt} (hb : bOk id A = true) {i : Nat} (hi : i < A.length) (hs : (A.getD i Pt.nil).ro = 3) {k : Nat} (hk : k ≤ 3) : ((itT id A k).getD i Pt.nil).op = false :=
  shut_not ((bOk_all (itT_ok hb k)).2.2 i) (m := 5 - (k : Int)) (by omega) (waits_shut hb hi hs k (by omega))

end Go.Proofs.Ytbffdkjgadhdoaa
