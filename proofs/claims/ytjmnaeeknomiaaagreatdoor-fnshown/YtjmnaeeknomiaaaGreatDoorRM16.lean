/- Ports drawn: right ones. Ports drawn.                    -/
import Derived.Test.YtjmnaeeknomiaaaGreatDoorRKWPort6s
import Derived.Test.YtjmnaeeknomiaaaGreatDoorRKWPort4s
import Derived.Test.YtjmnaeeknomiaaaGreatDoorRKWBxd3
import Derived.Deep.Grids
import Derived.Test.YtjmnaeeknomiaaaGreatDoorRM18
namespace Go.Proofs.YtjmnaeeknomiaaaGreatDoor
open Go.ChangeShapes Go.WideShapes Go.ChangeAt Go.RowKit
open Go.ChangeMaps (open_string shut_string)
set_option linter.unusedVariables false
set_option maxRecDepth 100000
set_option maxHeartbeats 32000000
set_option linter.unusedSimpArgs false
open Go.Proofs.Tryz
attribute [local go_sem] ji ja
theorem grown_trans {a b c : World} {r : Option Nat} (h : a.grownBy b r) (k : b.grownBy c r) : a.grownBy c r :=
  ⟨k.os.trans h.os, k.tape.trans h.tape, k.output.trans h.output, Nat.le_trans h.size k.size, fun j hj hne => (k.block j (Nat.lt_of_lt_of_le hj h.size) hne).trans (h.block j hj hne)⟩
theorem AO.new (w : World) (t : TypeId) (x : Pt) : AO (w.alloc (Obj.cells #[.bool x.up, .bool x.has, .int .i64 x.r, .int .i64 x.c, .int .i64 x.b, .int .i64 x.p, .int .i64 x.h, .int .i64 x.l, .int .i64 x.ro, .int .i64 x.wa, .bool x.op] t)) w.heap.size x := ⟨EN w t x, fun i => by simp [go_sem]⟩
theorem AO.grown {w w' : World} {q cb : Nat} {x : Pt} (h : AO w q x) (g : w.grownBy w' (some cb)) (hne : q ≠ cb) : AO w' q x := h.keep (g.block q h.lt (by simpa using hne))
theorem AO.put {w : World} {q : Nat} {x : Pt} (z : Pt) (h : AO w q x) : AO (((((((((((w.setCell ⟨q, 0, none⟩ (.bool z.up)).setCell ⟨q, 1, none⟩ (.bool z.has)).setCell ⟨q, 2, none⟩ (.int .i64 z.r)).setCell ⟨q, 3, none⟩ (.int .i64 z.c)).setCell ⟨q, 4, none⟩ (.int .i64 z.b)).setCell ⟨q, 5, none⟩ (.int .i64 z.p)).setCell ⟨q, 6, none⟩ (.int .i64 z.h)).setCell ⟨q, 7, none⟩ (.int .i64 z.l)).setCell ⟨q, 8, none⟩ (.int .i64 z.ro)).setCell ⟨q, 9, none⟩ (.int .i64 z.wa)).setCell ⟨q, 10, none⟩ (.bool z.op)) q z := (((((((((((h.set0 z.up).set1 z.has).set2 z.r).set3 z.c).set4 z.b).set5 z.p).set6 z.h).set7 z.l).set8 z.ro).set9 z.wa).set10 z.op)
theorem AO.putOther {w : World} {q q' : Nat} {x : Pt} (z : Pt) (h : AO w q x) (hne : q ≠ q') : AO (((((((((((w.setCell ⟨q', 0, none⟩ (.bool z.up)).setCell ⟨q', 1, none⟩ (.bool z.has)).setCell ⟨q', 2, none⟩ (.int .i64 z.r)).setCell ⟨q', 3, none⟩ (.int .i64 z.c)).setCell ⟨q', 4, none⟩ (.int .i64 z.b)).setCell ⟨q', 5, none⟩ (.int .i64 z.p)).setCell ⟨q', 6, none⟩ (.int .i64 z.h)).setCell ⟨q', 7, none⟩ (.int .i64 z.l)).setCell ⟨q', 8, none⟩ (.int .i64 z.ro)).setCell ⟨q', 9, none⟩ (.int .i64 z.wa)).setCell ⟨q', 10, none⟩ (.bool z.op)) q x := (((((((((((h.other hne).other hne).other hne).other hne).other hne).other hne).other hne).other hne).other hne).other hne).other hne)
theorem DV.put {w y : World} {cb : Nat} {ad : Option Addr} {len cap : Nat} {N : Nat} (z : Pt) (h : DV w cb ad len cap y) (hN : w.heap.size ≤ N) (hcb : cb < w.heap.size) : DV w cb ad len cap (((((((((((y.setCell ⟨N, 0, none⟩ (.bool z.up)).setCell ⟨N, 1, none⟩ (.bool z.has)).setCell ⟨N, 2, none⟩ (.int .i64 z.r)).setCell ⟨N, 3, none⟩ (.int .i64 z.c)).setCell ⟨N, 4, none⟩ (.int .i64 z.b)).setCell ⟨N, 5, none⟩ (.int .i64 z.p)).setCell ⟨N, 6, none⟩ (.int .i64 z.h)).setCell ⟨N, 7, none⟩ (.int .i64 z.l)).setCell ⟨N, 8, none⟩ (.int .i64 z.ro)).setCell ⟨N, 9, none⟩ (.int .i64 z.wa)).setCell ⟨N, 10, none⟩ (.bool z.op)) := (((((((((((h.set hN hcb _).set hN hcb _).set hN hcb _).set hN hcb _).set hN hcb _).set hN hcb _).set hN hcb _).set hN hcb _).set hN hcb _).set hN hcb _).set hN hcb _)
theorem Ja {B : Nat} {a w : World} {N : Nat} (z : Pt) (h : Below B a w) (hN : B ≤ N) : Below B a (((((((((((w.setCell ⟨N, 0, none⟩ (.bool z.up)).setCell ⟨N, 1, none⟩ (.bool z.has)).setCell ⟨N, 2, none⟩ (.int .i64 z.r)).setCell ⟨N, 3, none⟩ (.int .i64 z.c)).setCell ⟨N, 4, none⟩ (.int .i64 z.b)).setCell ⟨N, 5, none⟩ (.int .i64 z.p)).setCell ⟨N, 6, none⟩ (.int .i64 z.h)).setCell ⟨N, 7, none⟩ (.int .i64 z.l)).setCell ⟨N, 8, none⟩ (.int .i64 z.ro)).setCell ⟨N, 9, none⟩ (.int .i64 z.wa)).setCell ⟨N, 10, none⟩ (.bool z.op)) := (((((((((((h.setCell hN _).setCell hN _).setCell hN _).setCell hN _).setCell hN _).setCell hN _).setCell hN _).setCell hN _).setCell hN _).setCell hN _).setCell hN _)
theorem DV.later {w y y' : World} {cb : Nat} {ad : Option Addr} {len cap : Nat} (h : DV w cb ad len cap y) (k : Below y.heap.size y y') : DV w cb ad len cap y' :=
  ⟨h.cur.carry (k.block _ h.cur.lt), grown_trans h.gr ⟨k.os, k.tape, k.output, k.size, fun i hi _ => k.block i hi⟩⟩
def BJ (x : Pt) : Prop := (-9 ≤ x.r ∧ x.r ≤ 200000) ∧ (-9 ≤ x.c ∧ x.c ≤ 200000) ∧ (-9 ≤ x.b ∧ x.b ≤ 200000) ∧ (-9 ≤ x.p ∧ x.p ≤ 200000) ∧ (-9 ≤ x.wa ∧ x.wa ≤ 200000)
theorem J6 {x : Pt} {r c b p k : Int} (h : BJ x) (hv : V4 r c b p) : BJ (Bf x r c b p k) := by
  unfold Bf
  split
  · unfold BJ V4 at *; dsimp only; omega
  · exact h
theorem KZ {x : Pt} (h : BJ x) : BJ (Aq x) := by
  unfold Aq
  split
  · split
    · unfold BJ at *; unfold Pt.bare; dsimp only; omega
    · exact h
  · exact h
theorem Gm {x : Pt} {k : Int} (h : BJ x) : BJ (Bo x k) := by
  unfold Bo
  split
  · unfold BJ at *
    dsimp only
    have hw : Cu x.ro x.wa k = 0 ∨ Cu x.ro x.wa k = 4 ∨ Cu x.ro x.wa k = x.wa := by unfold Cu; (repeat' split) <;> simp
    omega
  · exact h
def Ig (w : World) (cb : Nat) (ad : Option Addr) (len cap : Nat) (f : Nat → Int) (e : Ending) (w' : World) : Prop := ∃ x : Pt, e = .returned (.agg #[.bool x.up, .bool x.has, .int .i64 x.r, .int .i64 x.c, .int .i64 x.b, .int .i64 x.p, .int .i64 x.h, .int .i64 x.l, .int .i64 x.ro, .int .i64 x.wa, .bool x.op]) ∧ BJ x ∧ At w' cb ad len cap f ∧ w.grownBy w' (some cb)
theorem Ks {cb : Nat} {ad : Option Addr} {len cap : Nat} {f : Nat → Int} (w : World) (hs : At w cb ad len cap f) (hcb : cb < w.heap.size) :
    Calls prog 101 #[.pointer (some ⟨cb, 0, none⟩)] w fun e w' => Ig w cb ad len cap f e w' := by
  obtain ⟨R, hRe⟩ : ∃ R, R = w.heap.size := ⟨_, rfl⟩
  have Rw : w.heap.size ≤ R := by omega
  have Rc : R ≠ cb := by omega
  obtain ⟨y0, hx0⟩ : ∃ y_, y_ = w.alloc (Obj.cells #[.bool false, .bool false, .int .i64 0, .int .i64 0, .int .i64 0, .int .i64 0, .int .i64 0, .int .i64 0, .int .i64 0, .int .i64 0, .bool false] 47) := ⟨_, rfl⟩
  have DD : DV w cb ad len cap y0 := by rw [hx0]; exact (DV.start hs).alloc _
  have Q : AO y0 R ⟨false, false, 0, 0, 0, 0, 0, 0, 0, 0, false⟩ := by rw [hx0, hRe]; exact AO.new w _ ⟨false, false, 0, 0, 0, 0, 0, 0, 0, 0, false⟩
  go_enter func101, ntmps101
  go_wp2_with fail
  go_at_call 52
  rw [← hx0, ← hRe]
  clear hx0 hRe
  refine (FV (DD.src hs) 5 (by omega) (by omega)).mono ?_
  rintro e y1 ⟨o, rfl, sq, gq⟩
  have DD := DD.step sq gq
  have Q := Q.grown gq Rc
  clear sq gq
  cases o
  rotate_left
  · have Q' := Q
    obtain ⟨⟨q0, q1, q2, q3, q4, q5, q6, q7, q8, q9, q10⟩, qf⟩ := Q
    go_wp2
    obtain ⟨yz, hz⟩ : ∃ y, y = (((((((((((y1.setCell ⟨R, 0, none⟩ (.bool false)).setCell ⟨R, 1, none⟩ (.bool false)).setCell ⟨R, 2, none⟩ (.int .i64 0)).setCell ⟨R, 3, none⟩ (.int .i64 0)).setCell ⟨R, 4, none⟩ (.int .i64 0)).setCell ⟨R, 5, none⟩ (.int .i64 0)).setCell ⟨R, 6, none⟩ (.int .i64 0)).setCell ⟨R, 7, none⟩ (.int .i64 0)).setCell ⟨R, 8, none⟩ (.int .i64 0)).setCell ⟨R, 9, none⟩ (.int .i64 0)).setCell ⟨R, 10, none⟩ (.bool false)) := ⟨_, rfl⟩
    have DZ : DV w cb ad len cap yz := by rw [hz]; exact DD.put ⟨false, false, 0, 0, 0, 0, 0, 0, 0, 0, false⟩ Rw hcb
    have Z_ : AO yz R ⟨false, false, 0, 0, 0, 0, 0, 0, 0, 0, false⟩ := by rw [hz]; exact Q'.put ⟨false, false, 0, 0, 0, 0, 0, 0, 0, 0, false⟩
    rw [← hz]
    clear hz Q' DD
    obtain ⟨e0, e1, e2, e3, e4, e5, e6, e7, e8, e9, e10⟩ := Z_.at_
    exact bodyPost_ret (v := .agg #[.bool false, .bool false, .int .i64 0, .int .i64 0, .int .i64 0, .int .i64 0, .int .i64 0, .int .i64 0, .int .i64 0, .int .i64 0, .bool false]) (by simp only [results, results101]; simp [go_sem, e0, e1, e2, e3, e4, e5, e6, e7, e8, e9, e10]) rfl ⟨⟨false, false, 0, 0, 0, 0, 0, 0, 0, 0, false⟩, rfl, (by unfold BJ; dsimp only; omega), DZ.src hs, DZ.gr⟩
  obtain ⟨B, hBe⟩ : ∃ B, B = y1.heap.size := ⟨_, rfl⟩
  have hBc : B ≠ cb := by have := DD.cur.lt; omega
  obtain ⟨y2, hx⟩ : ∃ y_, y_ = y1.alloc (Obj.cells #[.int .i64 0, .int .i64 2, .int .i64 4] 3) := ⟨_, rfl⟩
  have hg : ∀ i, i < 3 → ∃ y, y2.cell? ⟨B, i, none⟩ = some (.int .i64 y) ∧ (-1 ≤ y ∧ y ≤ 100) := by
    intro i hi
    rw [hx, hBe]
    obtain rfl | rfl | rfl : i = 0 ∨ i = 1 ∨ i = 2 := by omega
    · exact ⟨_, CQ y1 _ _ 0 rfl, by omega⟩
    · exact ⟨_, CQ y1 _ _ 1 rfl, by omega⟩
    · exact ⟨_, CQ y1 _ _ 2 rfl, by omega⟩
  have kq : Below y1.heap.size y1 y2 := by rw [hx]; exact (Below.refl _ _).alloc (Nat.le_refl _) _
  have DD := DD.later kq
  have Q := Q.below kq Q.lt
  clear kq
  go_wp2_with fail
  go_at_call 47
  rw [← hx, ← hBe]
  clear hx hBe
  refine (Dq (DD.src hs) (fun y => -1 ≤ y ∧ y ≤ 100) B 3 3 hBc (by omega) (by omega) hg).mono ?_
  rintro e y3 ⟨v, rfl, vr, sq, gq⟩
  clear hg hBc
  have DD := DD.step sq gq
  have Q := Q.grown gq Rc
  clear sq gq
  obtain ⟨x, hxx⟩ : ∃ x : Pt, x = ⟨true, false, 0, 0, 0, 0, 0, 0, 2, v, false⟩ := ⟨_, rfl⟩
  have hxn : BJ x := by rw [hxx]; unfold BJ; dsimp only; omega
  obtain ⟨N, hq⟩ : ∃ N, N = y3.heap.size := ⟨_, rfl⟩
  have Nw : w.heap.size ≤ N := by have := DD.gr.size; omega
  have Nc : N ≠ cb := by have := DD.cur.lt; omega
  obtain ⟨y4, hx⟩ : ∃ y_, y_ = y3.alloc (Obj.cells #[.bool true, .bool false, .int .i64 0, .int .i64 0, .int .i64 0, .int .i64 0, .int .i64 0, .int .i64 0, .int .i64 2, .int .i64 v, .bool false] 47) := ⟨_, rfl⟩
  have RN : R ≠ N := by have := Q.lt; omega
  have N_ : AO y4 N ⟨true, false, 0, 0, 0, 0, 0, 0, 2, v, false⟩ := by rw [hx, hq]; exact AO.new y3 _ ⟨true, false, 0, 0, 0, 0, 0, 0, 2, v, false⟩
  have kq : Below y3.heap.size y3 y4 := by rw [hx]; exact (Below.refl _ _).alloc (Nat.le_refl _) _
  have DD := DD.later kq
  have Q := Q.below kq Q.lt
  clear kq
  go_wp2_with fail
  go_at_call 52
  rw [← hx, ← hq]
  clear hx hq
  rw [← hxx] at N_
  clear hxx
  refine (FV (DD.src hs) 3 (by omega) (by omega)).mono ?_
  rintro e y5 ⟨o, rfl, sq, gq⟩
  have DD := DD.step sq gq
  have Q := Q.grown gq Rc
  have N_ := N_.grown gq Nc
  clear sq gq
  cases o
  rotate_left
  · obtain ⟨n0, n1, n2, n3, n4, n5, n6, n7, n8, n9, n10⟩ := N_.at_
    go_wp2_with fail
    go_at_call 123
    refine (EH x y5).mono ?_
    rintro e y6 ⟨rfl, kq⟩
    clear n0 n1 n2 n3 n4 n5 n6 n7 n8 n9 n10
    have DD := DD.later kq
    have Q := Q.below kq Q.lt
    have N_ := N_.below kq N_.lt
    clear kq
    go_wp2_with fail
    go_at_call 56
    refine (BD (DD.src hs) 3 (by omega) (by omega)).mono ?_
    rintro e y7 ⟨u, rfl, ua, ub, sq, gq⟩
    have DD := DD.step sq gq
    have Q := Q.grown gq Rc
    have N_ := N_.grown gq Nc
    clear sq gq
    have hw : IntKind.i64.wrap (1 + u) = 1 + u := by rw [IntKind.wrap_i64]; omega
    go_wp2_with fail
    go_at_call 125
    refine (FH ⟨x.up, x.has, x.r, x.c, x.b, x.p, x.h, x.l, x.ro, x.wa, Ay x.ro x.wa⟩ (1 + u) y7).mono ?_
    rintro e y8 ⟨rfl, kq⟩
    have DD := DD.later kq
    have Q := Q.below kq Q.lt
    have N_ := N_.below kq N_.lt
    clear kq
    have hn : BJ (Bo ⟨x.up, x.has, x.r, x.c, x.b, x.p, x.h, x.l, x.ro, x.wa, Ay x.ro x.wa⟩ (1 + u)) := Gm (show BJ ⟨x.up, x.has, x.r, x.c, x.b, x.p, x.h, x.l, x.ro, x.wa, Ay x.ro x.wa⟩ from hxn)
    generalize Bo ⟨x.up, x.has, x.r, x.c, x.b, x.p, x.h, x.l, x.ro, x.wa, Ay x.ro x.wa⟩ (1 + u) = z at hn ⊢
    have Q' := Q
    obtain ⟨⟨q0, q1, q2, q3, q4, q5, q6, q7, q8, q9, q10⟩, qf⟩ := Q
    go_wp2
    obtain ⟨yz, hz⟩ : ∃ y, y = (((((((((((y8.setCell ⟨R, 0, none⟩ (.bool z.up)).setCell ⟨R, 1, none⟩ (.bool z.has)).setCell ⟨R, 2, none⟩ (.int .i64 z.r)).setCell ⟨R, 3, none⟩ (.int .i64 z.c)).setCell ⟨R, 4, none⟩ (.int .i64 z.b)).setCell ⟨R, 5, none⟩ (.int .i64 z.p)).setCell ⟨R, 6, none⟩ (.int .i64 z.h)).setCell ⟨R, 7, none⟩ (.int .i64 z.l)).setCell ⟨R, 8, none⟩ (.int .i64 z.ro)).setCell ⟨R, 9, none⟩ (.int .i64 z.wa)).setCell ⟨R, 10, none⟩ (.bool z.op)) := ⟨_, rfl⟩
    have DZ : DV w cb ad len cap yz := by rw [hz]; exact DD.put z Rw hcb
    have Z_ : AO yz R z := by rw [hz]; exact Q'.put z
    rw [← hz]
    clear hz Q' DD
    obtain ⟨e0, e1, e2, e3, e4, e5, e6, e7, e8, e9, e10⟩ := Z_.at_
    exact bodyPost_ret (v := .agg #[.bool z.up, .bool z.has, .int .i64 z.r, .int .i64 z.c, .int .i64 z.b, .int .i64 z.p, .int .i64 z.h, .int .i64 z.l, .int .i64 z.ro, .int .i64 z.wa, .bool z.op]) (by simp only [results, results101]; simp [go_sem, e0, e1, e2, e3, e4, e5, e6, e7, e8, e9, e10]) rfl ⟨z, rfl, hn, DZ.src hs, DZ.gr⟩
  obtain ⟨n0, n1, n2, n3, n4, n5, n6, n7, n8, n9, n10⟩ := N_.at_
  go_wp2_with fail
  go_at_call 123
  refine (EH x y5).mono ?_
  rintro e y6 ⟨rfl, kq⟩
  clear n0 n1 n2 n3 n4 n5 n6 n7 n8 n9 n10
  have DD := DD.later kq
  have Q := Q.below kq Q.lt
  have N_ := N_.below kq N_.lt
  clear kq
  have hc2 : cb < y6.heap.size := DD.cur.lt
  go_wp2_with fail
  go_at_call 80
  refine (GL y6 (DD.src hs) hc2).mono ?_
  rintro e y7 ⟨r, c, b, p, rfl, hv4, sq, gq⟩
  clear hc2
  have DD := DD.step sq gq
  have Q := Q.grown gq Rc
  have N_ := N_.grown gq Nc
  clear sq gq
  go_wp2_with fail
  go_at_call 56
  refine (BD (DD.src hs) 4 (by omega) (by omega)).mono ?_
  rintro e y8 ⟨k, rfl, ka, kb, sq, gq⟩
  have DD := DD.step sq gq
  have Q := Q.grown gq Rc
  have N_ := N_.grown gq Nc
  clear sq gq
  go_wp2_with fail
  go_at_call 113
  refine (IQ ⟨x.up, x.has, x.r, x.c, x.b, x.p, x.h, x.l, x.ro, x.wa, Ay x.ro x.wa⟩ r c b p k y8).mono ?_
  rintro e y9 ⟨rfl, kq⟩
  have DD := DD.later kq
  have Q := Q.below kq Q.lt
  have N_ := N_.below kq N_.lt
  clear kq
  have hxn2 : BJ (Bf ⟨x.up, x.has, x.r, x.c, x.b, x.p, x.h, x.l, x.ro, x.wa, Ay x.ro x.wa⟩ r c b p k) := J6 (show BJ ⟨x.up, x.has, x.r, x.c, x.b, x.p, x.h, x.l, x.ro, x.wa, Ay x.ro x.wa⟩ from hxn) hv4
  generalize Bf ⟨x.up, x.has, x.r, x.c, x.b, x.p, x.h, x.l, x.ro, x.wa, Ay x.ro x.wa⟩ r c b p k = x2 at hxn2 ⊢
  have N' := N_
  obtain ⟨⟨n0, n1, n2, n3, n4, n5, n6, n7, n8, n9, n10⟩, nf⟩ := N_
  go_wp2_with fail
  go_at_call 52
  clear n0 n1 n2 n3 n4 n5 n6 n7 n8 n9 n10 nf
  obtain ⟨y10, hx⟩ : ∃ y_, y_ = (((((((((((y9.setCell ⟨N, 0, none⟩ (.bool x2.up)).setCell ⟨N, 1, none⟩ (.bool x2.has)).setCell ⟨N, 2, none⟩ (.int .i64 x2.r)).setCell ⟨N, 3, none⟩ (.int .i64 x2.c)).setCell ⟨N, 4, none⟩ (.int .i64 x2.b)).setCell ⟨N, 5, none⟩ (.int .i64 x2.p)).setCell ⟨N, 6, none⟩ (.int .i64 x2.h)).setCell ⟨N, 7, none⟩ (.int .i64 x2.l)).setCell ⟨N, 8, none⟩ (.int .i64 x2.ro)).setCell ⟨N, 9, none⟩ (.int .i64 x2.wa)).setCell ⟨N, 10, none⟩ (.bool x2.op)) := ⟨_, rfl⟩
  have D_ : DV w cb ad len cap y10 := by rw [hx]; exact DD.put x2 Nw hcb
  have N_ : AO y10 N x2 := by rw [hx]; exact N'.put x2
  have Q_ : AO y10 R ⟨false, false, 0, 0, 0, 0, 0, 0, 0, 0, false⟩ := by rw [hx]; exact Q.putOther x2 RN
  rw [← hx]
  clear hx DD Q N'
  have DD := D_
  have Q := Q_
  clear D_ Q_
  refine (FV (DD.src hs) 3 (by omega) (by omega)).mono ?_
  rintro e y11 ⟨o, rfl, sq, gq⟩
  have DD := DD.step sq gq
  have Q := Q.grown gq Rc
  have N_ := N_.grown gq Nc
  clear sq gq
  cases o
  · obtain ⟨n0, n1, n2, n3, n4, n5, n6, n7, n8, n9, n10⟩ := N_.at_
    go_wp2_with fail
    go_at_call 123
    refine (EH x2 y11).mono ?_
    rintro e y12 ⟨rfl, kq⟩
    clear n0 n1 n2 n3 n4 n5 n6 n7 n8 n9 n10
    have DD := DD.later kq
    have Q := Q.below kq Q.lt
    have N_ := N_.below kq N_.lt
    clear kq
    go_wp2_with fail
    go_at_call 56
    refine (BD (DD.src hs) 3 (by omega) (by omega)).mono ?_
    rintro e y13 ⟨u, rfl, ua, ub, sq, gq⟩
    have DD := DD.step sq gq
    have Q := Q.grown gq Rc
    have N_ := N_.grown gq Nc
    clear sq gq
    have hw : IntKind.i64.wrap (1 + u) = 1 + u := by rw [IntKind.wrap_i64]; omega
    go_wp2_with fail
    go_at_call 125
    refine (FH ⟨x2.up, x2.has, x2.r, x2.c, x2.b, x2.p, x2.h, x2.l, x2.ro, x2.wa, Ay x2.ro x2.wa⟩ (1 + u) y13).mono ?_
    rintro e y14 ⟨rfl, kq⟩
    have DD := DD.later kq
    have Q := Q.below kq Q.lt
    have N_ := N_.below kq N_.lt
    clear kq
    have hn : BJ (Bo ⟨x2.up, x2.has, x2.r, x2.c, x2.b, x2.p, x2.h, x2.l, x2.ro, x2.wa, Ay x2.ro x2.wa⟩ (1 + u)) := Gm (show BJ ⟨x2.up, x2.has, x2.r, x2.c, x2.b, x2.p, x2.h, x2.l, x2.ro, x2.wa, Ay x2.ro x2.wa⟩ from hxn2)
    generalize Bo ⟨x2.up, x2.has, x2.r, x2.c, x2.b, x2.p, x2.h, x2.l, x2.ro, x2.wa, Ay x2.ro x2.wa⟩ (1 + u) = z at hn ⊢
    have Q' := Q
    obtain ⟨⟨q0, q1, q2, q3, q4, q5, q6, q7, q8, q9, q10⟩, qf⟩ := Q
    go_wp2
    obtain ⟨yz, hz⟩ : ∃ y, y = (((((((((((y14.setCell ⟨R, 0, none⟩ (.bool z.up)).setCell ⟨R, 1, none⟩ (.bool z.has)).setCell ⟨R, 2, none⟩ (.int .i64 z.r)).setCell ⟨R, 3, none⟩ (.int .i64 z.c)).setCell ⟨R, 4, none⟩ (.int .i64 z.b)).setCell ⟨R, 5, none⟩ (.int .i64 z.p)).setCell ⟨R, 6, none⟩ (.int .i64 z.h)).setCell ⟨R, 7, none⟩ (.int .i64 z.l)).setCell ⟨R, 8, none⟩ (.int .i64 z.ro)).setCell ⟨R, 9, none⟩ (.int .i64 z.wa)).setCell ⟨R, 10, none⟩ (.bool z.op)) := ⟨_, rfl⟩
    have DZ : DV w cb ad len cap yz := by rw [hz]; exact DD.put z Rw hcb
    have Z_ : AO yz R z := by rw [hz]; exact Q'.put z
    rw [← hz]
    clear hz Q' DD
    obtain ⟨e0, e1, e2, e3, e4, e5, e6, e7, e8, e9, e10⟩ := Z_.at_
    exact bodyPost_ret (v := .agg #[.bool z.up, .bool z.has, .int .i64 z.r, .int .i64 z.c, .int .i64 z.b, .int .i64 z.p, .int .i64 z.h, .int .i64 z.l, .int .i64 z.ro, .int .i64 z.wa, .bool z.op]) (by simp only [results, results101]; simp [go_sem, e0, e1, e2, e3, e4, e5, e6, e7, e8, e9, e10]) rfl ⟨z, rfl, hn, DZ.src hs, DZ.gr⟩
  obtain ⟨n0, n1, n2, n3, n4, n5, n6, n7, n8, n9, n10⟩ := N_.at_
  go_wp2_with fail
  go_at_call 124
  refine (Id x2 y11).mono ?_
  rintro e y12 ⟨rfl, kq⟩
  clear n0 n1 n2 n3 n4 n5 n6 n7 n8 n9 n10
  have DD := DD.later kq
  have Q := Q.below kq Q.lt
  have N_ := N_.below kq N_.lt
  clear kq
  have hxn3 : BJ (Aq x2) := KZ (show BJ x2 from hxn2)
  generalize Aq x2 = x3 at hxn3 ⊢
  have N' := N_
  obtain ⟨⟨n0, n1, n2, n3, n4, n5, n6, n7, n8, n9, n10⟩, nf⟩ := N_
  go_wp2_with fail
  go_at_call 123
  clear n0 n1 n2 n3 n4 n5 n6 n7 n8 n9 n10 nf
  obtain ⟨y13, hx⟩ : ∃ y_, y_ = (((((((((((y12.setCell ⟨N, 0, none⟩ (.bool x3.up)).setCell ⟨N, 1, none⟩ (.bool x3.has)).setCell ⟨N, 2, none⟩ (.int .i64 x3.r)).setCell ⟨N, 3, none⟩ (.int .i64 x3.c)).setCell ⟨N, 4, none⟩ (.int .i64 x3.b)).setCell ⟨N, 5, none⟩ (.int .i64 x3.p)).setCell ⟨N, 6, none⟩ (.int .i64 x3.h)).setCell ⟨N, 7, none⟩ (.int .i64 x3.l)).setCell ⟨N, 8, none⟩ (.int .i64 x3.ro)).setCell ⟨N, 9, none⟩ (.int .i64 x3.wa)).setCell ⟨N, 10, none⟩ (.bool x3.op)) := ⟨_, rfl⟩
  have D_ : DV w cb ad len cap y13 := by rw [hx]; exact DD.put x3 Nw hcb
  have N_ : AO y13 N x3 := by rw [hx]; exact N'.put x3
  have Q_ : AO y13 R ⟨false, false, 0, 0, 0, 0, 0, 0, 0, 0, false⟩ := by rw [hx]; exact Q.putOther x3 RN
  rw [← hx]
  clear hx DD Q N'
  have DD := D_
  have Q := Q_
  clear D_ Q_
  refine (EH x3 y13).mono ?_
  rintro e y14 ⟨rfl, kq⟩
  have DD := DD.later kq
  have Q := Q.below kq Q.lt
  have N_ := N_.below kq N_.lt
  clear kq
  go_wp2_with fail
  go_at_call 56
  refine (BD (DD.src hs) 3 (by omega) (by omega)).mono ?_
  rintro e y15 ⟨u, rfl, ua, ub, sq, gq⟩
  have DD := DD.step sq gq
  have Q := Q.grown gq Rc
  have N_ := N_.grown gq Nc
  clear sq gq
  have hw : IntKind.i64.wrap (1 + u) = 1 + u := by rw [IntKind.wrap_i64]; omega
  go_wp2_with fail
  go_at_call 125
  refine (FH ⟨x3.up, x3.has, x3.r, x3.c, x3.b, x3.p, x3.h, x3.l, x3.ro, x3.wa, Ay x3.ro x3.wa⟩ (1 + u) y15).mono ?_
  rintro e y16 ⟨rfl, kq⟩
  have DD := DD.later kq
  have Q := Q.below kq Q.lt
  have N_ := N_.below kq N_.lt
  clear kq
  have hn : BJ (Bo ⟨x3.up, x3.has, x3.r, x3.c, x3.b, x3.p, x3.h, x3.l, x3.ro, x3.wa, Ay x3.ro x3.wa⟩ (1 + u)) := Gm (show BJ ⟨x3.up, x3.has, x3.r, x3.c, x3.b, x3.p, x3.h, x3.l, x3.ro, x3.wa, Ay x3.ro x3.wa⟩ from hxn3)
  generalize Bo ⟨x3.up, x3.has, x3.r, x3.c, x3.b, x3.p, x3.h, x3.l, x3.ro, x3.wa, Ay x3.ro x3.wa⟩ (1 + u) = z at hn ⊢
  have Q' := Q
  obtain ⟨⟨q0, q1, q2, q3, q4, q5, q6, q7, q8, q9, q10⟩, qf⟩ := Q
  go_wp2
  obtain ⟨yz, hz⟩ : ∃ y, y = (((((((((((y16.setCell ⟨R, 0, none⟩ (.bool z.up)).setCell ⟨R, 1, none⟩ (.bool z.has)).setCell ⟨R, 2, none⟩ (.int .i64 z.r)).setCell ⟨R, 3, none⟩ (.int .i64 z.c)).setCell ⟨R, 4, none⟩ (.int .i64 z.b)).setCell ⟨R, 5, none⟩ (.int .i64 z.p)).setCell ⟨R, 6, none⟩ (.int .i64 z.h)).setCell ⟨R, 7, none⟩ (.int .i64 z.l)).setCell ⟨R, 8, none⟩ (.int .i64 z.ro)).setCell ⟨R, 9, none⟩ (.int .i64 z.wa)).setCell ⟨R, 10, none⟩ (.bool z.op)) := ⟨_, rfl⟩
  have DZ : DV w cb ad len cap yz := by rw [hz]; exact DD.put z Rw hcb
  have Z_ : AO yz R z := by rw [hz]; exact Q'.put z
  rw [← hz]
  clear hz Q' DD
  obtain ⟨e0, e1, e2, e3, e4, e5, e6, e7, e8, e9, e10⟩ := Z_.at_
  exact bodyPost_ret (v := .agg #[.bool z.up, .bool z.has, .int .i64 z.r, .int .i64 z.c, .int .i64 z.b, .int .i64 z.p, .int .i64 z.h, .int .i64 z.l, .int .i64 z.ro, .int .i64 z.wa, .bool z.op]) (by simp only [results, results101]; simp [go_sem, e0, e1, e2, e3, e4, e5, e6, e7, e8, e9, e10]) rfl ⟨z, rfl, hn, DZ.src hs, DZ.gr⟩
theorem IN {cb : Nat} {ad : Option Addr} {len cap : Nat} {f : Nat → Int} (w : World) (hs : At w cb ad len cap f) (hcb : cb < w.heap.size) :
    Calls prog 68 #[.pointer (some ⟨cb, 0, none⟩)] w fun e w' => Ig w cb ad len cap f e w' := by
  obtain ⟨R, hRe⟩ : ∃ R, R = w.heap.size := ⟨_, rfl⟩
  have Rw : w.heap.size ≤ R := by omega
  have Rc : R ≠ cb := by omega
  obtain ⟨y0, hx0⟩ : ∃ y_, y_ = w.alloc (Obj.cells #[.bool false, .bool false, .int .i64 0, .int .i64 0, .int .i64 0, .int .i64 0, .int .i64 0, .int .i64 0, .int .i64 0, .int .i64 0, .bool false] 47) := ⟨_, rfl⟩
  have DD : DV w cb ad len cap y0 := by rw [hx0]; exact (DV.start hs).alloc _
  have Q : AO y0 R ⟨false, false, 0, 0, 0, 0, 0, 0, 0, 0, false⟩ := by rw [hx0, hRe]; exact AO.new w _ ⟨false, false, 0, 0, 0, 0, 0, 0, 0, 0, false⟩
  have hc2 : cb < y0.heap.size := DD.cur.lt
  go_enter func68, ntmps68
  go_wp2_with fail
  go_at_call 101
  rw [← hx0, ← hRe]
  clear hx0 hRe
  refine (Ks y0 (DD.src hs) hc2).mono ?_
  rintro e y1 ⟨x, rfl, hxn, sq, gq⟩
  clear hc2
  have DD := DD.step sq gq
  have Q := Q.grown gq Rc
  clear sq gq
  obtain ⟨N, hq⟩ : ∃ N, N = y1.heap.size := ⟨_, rfl⟩
  have Nw : w.heap.size ≤ N := by have := DD.gr.size; omega
  have Nc : N ≠ cb := by have := DD.cur.lt; omega
  obtain ⟨y2, hx⟩ : ∃ y_, y_ = y1.alloc (Obj.cells #[.bool x.up, .bool x.has, .int .i64 x.r, .int .i64 x.c, .int .i64 x.b, .int .i64 x.p, .int .i64 x.h, .int .i64 x.l, .int .i64 x.ro, .int .i64 x.wa, .bool x.op] 47) := ⟨_, rfl⟩
  have RN : R ≠ N := by have := Q.lt; omega
  have N_ : AO y2 N x := by rw [hx, hq]; exact AO.new y1 _ x
  have kq : Below y1.heap.size y1 y2 := by rw [hx]; exact (Below.refl _ _).alloc (Nat.le_refl _) _
  have DD := DD.later kq
  have Q := Q.below kq Q.lt
  clear kq
  go_wp2_with fail
  go_at_call 56
  rw [← hx, ← hq]
  clear hx hq
  refine (BD (DD.src hs) 12 (by omega) (by omega)).mono ?_
  rintro e y3 ⟨k, rfl, k0, k1, sq, gq⟩
  have DD := DD.step sq gq
  have Q := Q.grown gq Rc
  have N_ := N_.grown gq Nc
  clear sq gq
  by_cases hk0 : k = 0
  · subst hk0
    have N' := N_
    obtain ⟨⟨n0, n1, n2, n3, n4, n5, n6, n7, n8, n9, n10⟩, nf⟩ := N_
    go_upto_region 15 with fail
    clear n0 n1 n2 n3 n4 n5 n6 n7 n8 n9 n10 nf
    have N_ := N'
    clear N'
    obtain ⟨y4, hx⟩ : ∃ y_, y_ = (y3.setCell ⟨N, 0, none⟩ (.bool (!x.up))) := ⟨_, rfl⟩
    have E_ := (N_.set0 (!x.up))
    have D_ : DV w cb ad len cap y4 := by rw [hx]; exact (DD.set Nw hcb _)
    replace Q : AO y4 R ⟨false, false, 0, 0, 0, 0, 0, 0, 0, 0, false⟩ := by rw [hx]; exact (Q.other (by omega))
    rw [← hx] at E_ ⊢
    clear hx DD
    clear N_
    have DD := D_
    have N_ := E_
    clear D_ E_
    obtain ⟨z, hz0⟩ : ∃ z : Pt, z = { x with up := (!x.up) } := ⟨_, rfl⟩
    have hn : BJ z := by rw [hz0]; unfold BJ at hxn ⊢; (try unfold V4 at *); dsimp only; omega
    replace N_ : AO y4 N z := by rw [hz0]; exact N_
    clear hz0
    obtain ⟨n0, n1, n2, n3, n4, n5, n6, n7, n8, n9, n10⟩ := N_.at_
    have Q' := Q
    obtain ⟨⟨q0, q1, q2, q3, q4, q5, q6, q7, q8, q9, q10⟩, qf⟩ := Q
    go_wp2
    obtain ⟨yz, hz⟩ : ∃ y, y = (((((((((((y4.setCell ⟨R, 0, none⟩ (.bool z.up)).setCell ⟨R, 1, none⟩ (.bool z.has)).setCell ⟨R, 2, none⟩ (.int .i64 z.r)).setCell ⟨R, 3, none⟩ (.int .i64 z.c)).setCell ⟨R, 4, none⟩ (.int .i64 z.b)).setCell ⟨R, 5, none⟩ (.int .i64 z.p)).setCell ⟨R, 6, none⟩ (.int .i64 z.h)).setCell ⟨R, 7, none⟩ (.int .i64 z.l)).setCell ⟨R, 8, none⟩ (.int .i64 z.ro)).setCell ⟨R, 9, none⟩ (.int .i64 z.wa)).setCell ⟨R, 10, none⟩ (.bool z.op)) := ⟨_, rfl⟩
    have DZ : DV w cb ad len cap yz := by rw [hz]; exact DD.put z Rw hcb
    have Z_ : AO yz R z := by rw [hz]; exact Q'.put z
    rw [← hz]
    clear hz Q' DD
    obtain ⟨e0, e1, e2, e3, e4, e5, e6, e7, e8, e9, e10⟩ := Z_.at_
    exact bodyPost_ret (v := .agg #[.bool z.up, .bool z.has, .int .i64 z.r, .int .i64 z.c, .int .i64 z.b, .int .i64 z.p, .int .i64 z.h, .int .i64 z.l, .int .i64 z.ro, .int .i64 z.wa, .bool z.op]) (by simp only [results, results68]; simp [go_sem, e0, e1, e2, e3, e4, e5, e6, e7, e8, e9, e10]) rfl ⟨z, rfl, hn, DZ.src hs, DZ.gr⟩
  have e0 : (k == 0) = false := by simp; omega
  by_cases hk1 : k = 1
  · subst hk1
    have hc2 : cb < y3.heap.size := DD.cur.lt
    go_wp2_with fail
    go_at_call 78
    refine (IP y3 (DD.src hs) hc2).mono ?_
    rintro e y4 ⟨r, c, b, p, rfl, hv4, sq, gq⟩
    clear hc2
    have DD := DD.step sq gq
    have Q := Q.grown gq Rc
    have N_ := N_.grown gq Nc
    clear sq gq
    have N' := N_
    obtain ⟨⟨n0, n1, n2, n3, n4, n5, n6, n7, n8, n9, n10⟩, nf⟩ := N_
    go_upto_region 15 with fail
    clear n0 n1 n2 n3 n4 n5 n6 n7 n8 n9 n10 nf
    have N_ := N'
    clear N'
    obtain ⟨y5, hx⟩ : ∃ y_, y_ = ((((y4.setCell ⟨N, 2, none⟩ (.int .i64 r)).setCell ⟨N, 3, none⟩ (.int .i64 c)).setCell ⟨N, 4, none⟩ (.int .i64 b)).setCell ⟨N, 5, none⟩ (.int .i64 p)) := ⟨_, rfl⟩
    have E_ := ((((N_.set2 r).set3 c).set4 b).set5 p)
    have D_ : DV w cb ad len cap y5 := by rw [hx]; exact ((((DD.set Nw hcb _).set Nw hcb _).set Nw hcb _).set Nw hcb _)
    replace Q : AO y5 R ⟨false, false, 0, 0, 0, 0, 0, 0, 0, 0, false⟩ := by rw [hx]; exact ((((Q.other (by omega)).other (by omega)).other (by omega)).other (by omega))
    rw [← hx] at E_ ⊢
    clear hx DD
    clear N_
    have DD := D_
    have N_ := E_
    clear D_ E_
    obtain ⟨z, hz0⟩ : ∃ z : Pt, z = { x with r := r, c := c, b := b, p := p } := ⟨_, rfl⟩
    have hn : BJ z := by rw [hz0]; unfold BJ at hxn ⊢; (try unfold V4 at *); dsimp only; omega
    replace N_ : AO y5 N z := by rw [hz0]; exact N_
    clear hz0
    obtain ⟨n0, n1, n2, n3, n4, n5, n6, n7, n8, n9, n10⟩ := N_.at_
    have Q' := Q
    obtain ⟨⟨q0, q1, q2, q3, q4, q5, q6, q7, q8, q9, q10⟩, qf⟩ := Q
    go_wp2
    obtain ⟨yz, hz⟩ : ∃ y, y = (((((((((((y5.setCell ⟨R, 0, none⟩ (.bool z.up)).setCell ⟨R, 1, none⟩ (.bool z.has)).setCell ⟨R, 2, none⟩ (.int .i64 z.r)).setCell ⟨R, 3, none⟩ (.int .i64 z.c)).setCell ⟨R, 4, none⟩ (.int .i64 z.b)).setCell ⟨R, 5, none⟩ (.int .i64 z.p)).setCell ⟨R, 6, none⟩ (.int .i64 z.h)).setCell ⟨R, 7, none⟩ (.int .i64 z.l)).setCell ⟨R, 8, none⟩ (.int .i64 z.ro)).setCell ⟨R, 9, none⟩ (.int .i64 z.wa)).setCell ⟨R, 10, none⟩ (.bool z.op)) := ⟨_, rfl⟩
    have DZ : DV w cb ad len cap yz := by rw [hz]; exact DD.put z Rw hcb
    have Z_ : AO yz R z := by rw [hz]; exact Q'.put z
    rw [← hz]
    clear hz Q' DD
    obtain ⟨e0, e1, e2, e3, e4, e5, e6, e7, e8, e9, e10⟩ := Z_.at_
    exact bodyPost_ret (v := .agg #[.bool z.up, .bool z.has, .int .i64 z.r, .int .i64 z.c, .int .i64 z.b, .int .i64 z.p, .int .i64 z.h, .int .i64 z.l, .int .i64 z.ro, .int .i64 z.wa, .bool z.op]) (by simp only [results, results68]; simp [go_sem, e0, e1, e2, e3, e4, e5, e6, e7, e8, e9, e10]) rfl ⟨z, rfl, hn, DZ.src hs, DZ.gr⟩
  have e1 : (k == 1) = false := by simp; omega
  by_cases hk2 : k = 2
  · subst hk2
    obtain ⟨B, hBe⟩ : ∃ B, B = y3.heap.size := ⟨_, rfl⟩
    have hBc : B ≠ cb := by have := DD.cur.lt; omega
    obtain ⟨y4, hx⟩ : ∃ y_, y_ = y3.alloc (Obj.cells #[.int .i64 0, .int .i64 1, .int .i64 3, .int .i64 4] 3) := ⟨_, rfl⟩
    have hg : ∀ i, i < 4 → ∃ y, y4.cell? ⟨B, i, none⟩ = some (.int .i64 y) ∧ (-1 ≤ y ∧ y ≤ 100) := by
      intro i hi
      rw [hx, hBe]
      obtain rfl | rfl | rfl | rfl : i = 0 ∨ i = 1 ∨ i = 2 ∨ i = 3 := by omega
      · exact ⟨_, CQ y3 _ _ 0 rfl, by omega⟩
      · exact ⟨_, CQ y3 _ _ 1 rfl, by omega⟩
      · exact ⟨_, CQ y3 _ _ 2 rfl, by omega⟩
      · exact ⟨_, CQ y3 _ _ 3 rfl, by omega⟩
    have kq : Below y3.heap.size y3 y4 := by rw [hx]; exact (Below.refl _ _).alloc (Nat.le_refl _) _
    have DD := DD.later kq
    have Q := Q.below kq Q.lt
    have N_ := N_.below kq N_.lt
    clear kq
    go_wp2_with fail
    go_at_call 47
    rw [← hx, ← hBe]
    clear hx hBe
    refine (Dq (DD.src hs) (fun y => -1 ≤ y ∧ y ≤ 100) B 4 4 hBc (by omega) (by omega) hg).mono ?_
    rintro e y5 ⟨v, rfl, vr, sq, gq⟩
    clear hg hBc
    have DD := DD.step sq gq
    have Q := Q.grown gq Rc
    have N_ := N_.grown gq Nc
    clear sq gq
    have N' := N_
    obtain ⟨⟨n0, n1, n2, n3, n4, n5, n6, n7, n8, n9, n10⟩, nf⟩ := N_
    go_upto_region 15 with fail
    clear n0 n1 n2 n3 n4 n5 n6 n7 n8 n9 n10 nf
    have N_ := N'
    clear N'
    obtain ⟨y6, hx⟩ : ∃ y_, y_ = (y5.setCell ⟨N, 7, none⟩ (.int .i64 v)) := ⟨_, rfl⟩
    have E_ := (N_.set7 v)
    have D_ : DV w cb ad len cap y6 := by rw [hx]; exact (DD.set Nw hcb _)
    replace Q : AO y6 R ⟨false, false, 0, 0, 0, 0, 0, 0, 0, 0, false⟩ := by rw [hx]; exact (Q.other (by omega))
    rw [← hx] at E_ ⊢
    clear hx DD
    clear N_
    have DD := D_
    have N_ := E_
    clear D_ E_
    obtain ⟨z, hz0⟩ : ∃ z : Pt, z = { x with l := v } := ⟨_, rfl⟩
    have hn : BJ z := by rw [hz0]; unfold BJ at hxn ⊢; (try unfold V4 at *); dsimp only; omega
    replace N_ : AO y6 N z := by rw [hz0]; exact N_
    clear hz0
    obtain ⟨n0, n1, n2, n3, n4, n5, n6, n7, n8, n9, n10⟩ := N_.at_
    have Q' := Q
    obtain ⟨⟨q0, q1, q2, q3, q4, q5, q6, q7, q8, q9, q10⟩, qf⟩ := Q
    go_wp2
    obtain ⟨yz, hz⟩ : ∃ y, y = (((((((((((y6.setCell ⟨R, 0, none⟩ (.bool z.up)).setCell ⟨R, 1, none⟩ (.bool z.has)).setCell ⟨R, 2, none⟩ (.int .i64 z.r)).setCell ⟨R, 3, none⟩ (.int .i64 z.c)).setCell ⟨R, 4, none⟩ (.int .i64 z.b)).setCell ⟨R, 5, none⟩ (.int .i64 z.p)).setCell ⟨R, 6, none⟩ (.int .i64 z.h)).setCell ⟨R, 7, none⟩ (.int .i64 z.l)).setCell ⟨R, 8, none⟩ (.int .i64 z.ro)).setCell ⟨R, 9, none⟩ (.int .i64 z.wa)).setCell ⟨R, 10, none⟩ (.bool z.op)) := ⟨_, rfl⟩
    have DZ : DV w cb ad len cap yz := by rw [hz]; exact DD.put z Rw hcb
    have Z_ : AO yz R z := by rw [hz]; exact Q'.put z
    rw [← hz]
    clear hz Q' DD
    obtain ⟨e0, e1, e2, e3, e4, e5, e6, e7, e8, e9, e10⟩ := Z_.at_
    exact bodyPost_ret (v := .agg #[.bool z.up, .bool z.has, .int .i64 z.r, .int .i64 z.c, .int .i64 z.b, .int .i64 z.p, .int .i64 z.h, .int .i64 z.l, .int .i64 z.ro, .int .i64 z.wa, .bool z.op]) (by simp only [results, results68]; simp [go_sem, e0, e1, e2, e3, e4, e5, e6, e7, e8, e9, e10]) rfl ⟨z, rfl, hn, DZ.src hs, DZ.gr⟩
  have e2 : (k == 2) = false := by simp; omega
  by_cases hk3 : k = 3
  · subst hk3
    go_wp2_with fail
    go_at_call 56
    refine (BD (DD.src hs) 6 (by omega) (by omega)).mono ?_
    rintro e y4 ⟨u, rfl, ua, ub, sq, gq⟩
    have DD := DD.step sq gq
    have Q := Q.grown gq Rc
    have N_ := N_.grown gq Nc
    clear sq gq
    have hw : IntKind.i64.wrap (u - 1) = u - 1 := by rw [IntKind.wrap_i64]; omega
    have N' := N_
    obtain ⟨⟨n0, n1, n2, n3, n4, n5, n6, n7, n8, n9, n10⟩, nf⟩ := N_
    go_upto_region 15 with fail
    clear n0 n1 n2 n3 n4 n5 n6 n7 n8 n9 n10 nf
    have N_ := N'
    clear N'
    obtain ⟨y5, hx⟩ : ∃ y_, y_ = (y4.setCell ⟨N, 8, none⟩ (.int .i64 (u - 1))) := ⟨_, rfl⟩
    have E_ := (N_.set8 (u - 1))
    have D_ : DV w cb ad len cap y5 := by rw [hx]; exact (DD.set Nw hcb _)
    replace Q : AO y5 R ⟨false, false, 0, 0, 0, 0, 0, 0, 0, 0, false⟩ := by rw [hx]; exact (Q.other (by omega))
    rw [← hx] at E_ ⊢
    clear hx DD
    clear N_
    have DD := D_
    have N_ := E_
    clear D_ E_
    obtain ⟨z, hz0⟩ : ∃ z : Pt, z = { x with ro := (u - 1) } := ⟨_, rfl⟩
    have hn : BJ z := by rw [hz0]; unfold BJ at hxn ⊢; (try unfold V4 at *); dsimp only; omega
    replace N_ : AO y5 N z := by rw [hz0]; exact N_
    clear hz0
    obtain ⟨n0, n1, n2, n3, n4, n5, n6, n7, n8, n9, n10⟩ := N_.at_
    have Q' := Q
    obtain ⟨⟨q0, q1, q2, q3, q4, q5, q6, q7, q8, q9, q10⟩, qf⟩ := Q
    go_wp2
    obtain ⟨yz, hz⟩ : ∃ y, y = (((((((((((y5.setCell ⟨R, 0, none⟩ (.bool z.up)).setCell ⟨R, 1, none⟩ (.bool z.has)).setCell ⟨R, 2, none⟩ (.int .i64 z.r)).setCell ⟨R, 3, none⟩ (.int .i64 z.c)).setCell ⟨R, 4, none⟩ (.int .i64 z.b)).setCell ⟨R, 5, none⟩ (.int .i64 z.p)).setCell ⟨R, 6, none⟩ (.int .i64 z.h)).setCell ⟨R, 7, none⟩ (.int .i64 z.l)).setCell ⟨R, 8, none⟩ (.int .i64 z.ro)).setCell ⟨R, 9, none⟩ (.int .i64 z.wa)).setCell ⟨R, 10, none⟩ (.bool z.op)) := ⟨_, rfl⟩
    have DZ : DV w cb ad len cap yz := by rw [hz]; exact DD.put z Rw hcb
    have Z_ : AO yz R z := by rw [hz]; exact Q'.put z
    rw [← hz]
    clear hz Q' DD
    obtain ⟨e0, e1, e2, e3, e4, e5, e6, e7, e8, e9, e10⟩ := Z_.at_
    exact bodyPost_ret (v := .agg #[.bool z.up, .bool z.has, .int .i64 z.r, .int .i64 z.c, .int .i64 z.b, .int .i64 z.p, .int .i64 z.h, .int .i64 z.l, .int .i64 z.ro, .int .i64 z.wa, .bool z.op]) (by simp only [results, results68]; simp [go_sem, e0, e1, e2, e3, e4, e5, e6, e7, e8, e9, e10]) rfl ⟨z, rfl, hn, DZ.src hs, DZ.gr⟩
  have e3 : (k == 3) = false := by simp; omega
  by_cases hk4 : k = 4
  · subst hk4
    have N' := N_
    obtain ⟨⟨n0, n1, n2, n3, n4, n5, n6, n7, n8, n9, n10⟩, nf⟩ := N_
    go_upto_region 15 with fail
    clear n0 n1 n2 n3 n4 n5 n6 n7 n8 n9 n10 nf
    have N_ := N'
    clear N'
    obtain ⟨y4, hx⟩ : ∃ y_, y_ = (y3.setCell ⟨N, 10, none⟩ (.bool (!x.op))) := ⟨_, rfl⟩
    have E_ := (N_.set10 (!x.op))
    have D_ : DV w cb ad len cap y4 := by rw [hx]; exact (DD.set Nw hcb _)
    replace Q : AO y4 R ⟨false, false, 0, 0, 0, 0, 0, 0, 0, 0, false⟩ := by rw [hx]; exact (Q.other (by omega))
    rw [← hx] at E_ ⊢
    clear hx DD
    clear N_
    have DD := D_
    have N_ := E_
    clear D_ E_
    obtain ⟨z, hz0⟩ : ∃ z : Pt, z = { x with op := (!x.op) } := ⟨_, rfl⟩
    have hn : BJ z := by rw [hz0]; unfold BJ at hxn ⊢; (try unfold V4 at *); dsimp only; omega
    replace N_ : AO y4 N z := by rw [hz0]; exact N_
    clear hz0
    obtain ⟨n0, n1, n2, n3, n4, n5, n6, n7, n8, n9, n10⟩ := N_.at_
    have Q' := Q
    obtain ⟨⟨q0, q1, q2, q3, q4, q5, q6, q7, q8, q9, q10⟩, qf⟩ := Q
    go_wp2
    obtain ⟨yz, hz⟩ : ∃ y, y = (((((((((((y4.setCell ⟨R, 0, none⟩ (.bool z.up)).setCell ⟨R, 1, none⟩ (.bool z.has)).setCell ⟨R, 2, none⟩ (.int .i64 z.r)).setCell ⟨R, 3, none⟩ (.int .i64 z.c)).setCell ⟨R, 4, none⟩ (.int .i64 z.b)).setCell ⟨R, 5, none⟩ (.int .i64 z.p)).setCell ⟨R, 6, none⟩ (.int .i64 z.h)).setCell ⟨R, 7, none⟩ (.int .i64 z.l)).setCell ⟨R, 8, none⟩ (.int .i64 z.ro)).setCell ⟨R, 9, none⟩ (.int .i64 z.wa)).setCell ⟨R, 10, none⟩ (.bool z.op)) := ⟨_, rfl⟩
    have DZ : DV w cb ad len cap yz := by rw [hz]; exact DD.put z Rw hcb
    have Z_ : AO yz R z := by rw [hz]; exact Q'.put z
    rw [← hz]
    clear hz Q' DD
    obtain ⟨e0, e1, e2, e3, e4, e5, e6, e7, e8, e9, e10⟩ := Z_.at_
    exact bodyPost_ret (v := .agg #[.bool z.up, .bool z.has, .int .i64 z.r, .int .i64 z.c, .int .i64 z.b, .int .i64 z.p, .int .i64 z.h, .int .i64 z.l, .int .i64 z.ro, .int .i64 z.wa, .bool z.op]) (by simp only [results, results68]; simp [go_sem, e0, e1, e2, e3, e4, e5, e6, e7, e8, e9, e10]) rfl ⟨z, rfl, hn, DZ.src hs, DZ.gr⟩
  have e4 : (k == 4) = false := by simp; omega
  by_cases hk5 : k = 5
  · subst hk5
    obtain ⟨B, hBe⟩ : ∃ B, B = y3.heap.size := ⟨_, rfl⟩
    have hBc : B ≠ cb := by have := DD.cur.lt; omega
    obtain ⟨y4, hx⟩ : ∃ y_, y_ = y3.alloc (Obj.cells #[.int .i64 (-1), .int .i64 4, .int .i64 5] 3) := ⟨_, rfl⟩
    have hg : ∀ i, i < 3 → ∃ y, y4.cell? ⟨B, i, none⟩ = some (.int .i64 y) ∧ (-1 ≤ y ∧ y ≤ 100) := by
      intro i hi
      rw [hx, hBe]
      obtain rfl | rfl | rfl : i = 0 ∨ i = 1 ∨ i = 2 := by omega
      · exact ⟨_, CQ y3 _ _ 0 rfl, by omega⟩
      · exact ⟨_, CQ y3 _ _ 1 rfl, by omega⟩
      · exact ⟨_, CQ y3 _ _ 2 rfl, by omega⟩
    have kq : Below y3.heap.size y3 y4 := by rw [hx]; exact (Below.refl _ _).alloc (Nat.le_refl _) _
    have DD := DD.later kq
    have Q := Q.below kq Q.lt
    have N_ := N_.below kq N_.lt
    clear kq
    go_wp2_with fail
    go_at_call 47
    rw [← hx, ← hBe]
    clear hx hBe
    refine (Dq (DD.src hs) (fun y => -1 ≤ y ∧ y ≤ 100) B 3 3 hBc (by omega) (by omega) hg).mono ?_
    rintro e y5 ⟨v, rfl, vr, sq, gq⟩
    clear hg hBc
    have DD := DD.step sq gq
    have Q := Q.grown gq Rc
    have N_ := N_.grown gq Nc
    clear sq gq
    have N' := N_
    obtain ⟨⟨n0, n1, n2, n3, n4, n5, n6, n7, n8, n9, n10⟩, nf⟩ := N_
    go_upto_region 15 with fail
    clear n0 n1 n2 n3 n4 n5 n6 n7 n8 n9 n10 nf
    have N_ := N'
    clear N'
    obtain ⟨y6, hx⟩ : ∃ y_, y_ = (y5.setCell ⟨N, 9, none⟩ (.int .i64 v)) := ⟨_, rfl⟩
    have E_ := (N_.set9 v)
    have D_ : DV w cb ad len cap y6 := by rw [hx]; exact (DD.set Nw hcb _)
    replace Q : AO y6 R ⟨false, false, 0, 0, 0, 0, 0, 0, 0, 0, false⟩ := by rw [hx]; exact (Q.other (by omega))
    rw [← hx] at E_ ⊢
    clear hx DD
    clear N_
    have DD := D_
    have N_ := E_
    clear D_ E_
    obtain ⟨z, hz0⟩ : ∃ z : Pt, z = { x with wa := v } := ⟨_, rfl⟩
    have hn : BJ z := by rw [hz0]; unfold BJ at hxn ⊢; (try unfold V4 at *); dsimp only; omega
    replace N_ : AO y6 N z := by rw [hz0]; exact N_
    clear hz0
    obtain ⟨n0, n1, n2, n3, n4, n5, n6, n7, n8, n9, n10⟩ := N_.at_
    have Q' := Q
    obtain ⟨⟨q0, q1, q2, q3, q4, q5, q6, q7, q8, q9, q10⟩, qf⟩ := Q
    go_wp2
    obtain ⟨yz, hz⟩ : ∃ y, y = (((((((((((y6.setCell ⟨R, 0, none⟩ (.bool z.up)).setCell ⟨R, 1, none⟩ (.bool z.has)).setCell ⟨R, 2, none⟩ (.int .i64 z.r)).setCell ⟨R, 3, none⟩ (.int .i64 z.c)).setCell ⟨R, 4, none⟩ (.int .i64 z.b)).setCell ⟨R, 5, none⟩ (.int .i64 z.p)).setCell ⟨R, 6, none⟩ (.int .i64 z.h)).setCell ⟨R, 7, none⟩ (.int .i64 z.l)).setCell ⟨R, 8, none⟩ (.int .i64 z.ro)).setCell ⟨R, 9, none⟩ (.int .i64 z.wa)).setCell ⟨R, 10, none⟩ (.bool z.op)) := ⟨_, rfl⟩
    have DZ : DV w cb ad len cap yz := by rw [hz]; exact DD.put z Rw hcb
    have Z_ : AO yz R z := by rw [hz]; exact Q'.put z
    rw [← hz]
    clear hz Q' DD
    obtain ⟨e0, e1, e2, e3, e4, e5, e6, e7, e8, e9, e10⟩ := Z_.at_
    exact bodyPost_ret (v := .agg #[.bool z.up, .bool z.has, .int .i64 z.r, .int .i64 z.c, .int .i64 z.b, .int .i64 z.p, .int .i64 z.h, .int .i64 z.l, .int .i64 z.ro, .int .i64 z.wa, .bool z.op]) (by simp only [results, results68]; simp [go_sem, e0, e1, e2, e3, e4, e5, e6, e7, e8, e9, e10]) rfl ⟨z, rfl, hn, DZ.src hs, DZ.gr⟩
  have e5 : (k == 5) = false := by simp; omega
  clear hk0 hk1 hk2 hk3 hk4 hk5
  obtain ⟨n0, n1, n2, n3, n4, n5, n6, n7, n8, n9, n10⟩ := N_.at_
  have Q' := Q
  obtain ⟨⟨q0, q1, q2, q3, q4, q5, q6, q7, q8, q9, q10⟩, qf⟩ := Q
  go_wp2
  obtain ⟨yz, hz⟩ : ∃ y, y = (((((((((((y3.setCell ⟨R, 0, none⟩ (.bool x.up)).setCell ⟨R, 1, none⟩ (.bool x.has)).setCell ⟨R, 2, none⟩ (.int .i64 x.r)).setCell ⟨R, 3, none⟩ (.int .i64 x.c)).setCell ⟨R, 4, none⟩ (.int .i64 x.b)).setCell ⟨R, 5, none⟩ (.int .i64 x.p)).setCell ⟨R, 6, none⟩ (.int .i64 x.h)).setCell ⟨R, 7, none⟩ (.int .i64 x.l)).setCell ⟨R, 8, none⟩ (.int .i64 x.ro)).setCell ⟨R, 9, none⟩ (.int .i64 x.wa)).setCell ⟨R, 10, none⟩ (.bool x.op)) := ⟨_, rfl⟩
  have DZ : DV w cb ad len cap yz := by rw [hz]; exact DD.put x Rw hcb
  have Z_ : AO yz R x := by rw [hz]; exact Q'.put x
  rw [← hz]
  clear hz Q' DD
  obtain ⟨e0, e1, e2, e3, e4, e5, e6, e7, e8, e9, e10⟩ := Z_.at_
  exact bodyPost_ret (v := .agg #[.bool x.up, .bool x.has, .int .i64 x.r, .int .i64 x.c, .int .i64 x.b, .int .i64 x.p, .int .i64 x.h, .int .i64 x.l, .int .i64 x.ro, .int .i64 x.wa, .bool x.op]) (by simp only [results, results68]; simp [go_sem, e0, e1, e2, e3, e4, e5, e6, e7, e8, e9, e10]) rfl ⟨x, rfl, hxn, DZ.src hs, DZ.gr⟩
attribute [local go_sem] mc
theorem Ba.put2 {w : World} {q : Nat} {r : Rg} (h : Ba w q r) (p : Int) : Ba (w.setCell (ja q 2) (ji p)) q ⟨r.ep, r.ow, p⟩ :=
 ⟨⟨(AB (by decide)).trans h.at_.c0, (AB (by decide)).trans h.at_.c1, Al h.at_.c2⟩, fun i => by rw [World.frozen?_setCell]; exact h.fr i⟩
theorem IG (r : Rg) (s : Int) (m : Mi) (ad : Option Addr) (cap : Nat) (p : Int) (w : World) (hv : AI AW w ad m.lg) (hl : m.lg.length ≤ 1048577) :
  Calls prog 165 #[.agg #[ji r.ep, ji r.ow, ji r.pa], ji s, .agg #[.bool m.up, ji m.li, ji m.ep, .slice ad m.lg.length cap, ji m.sd, ji m.ac, ji m.al], ji p] w fun e w' => e = .returned (.tuple #[.agg #[ji (Df r s m p).ep, ji (Df r s m p).ow, ji (Df r s m p).pa], .bool (DT r s m p)]) ∧ Bw w w' := by
 have hB := hv.lt Av (by omega);obtain ⟨y, hy⟩ := AC (((w.alloc (Obj.cells #[ji r.ep, ji r.ow, ji r.pa] 57)).alloc (Obj.cells (mc m ad cap) 54)).alloc (Obj.cells #[ji 0, ji 0, ji 0] 57));have B0 : Bw w y := by rw [hy]; exact (((Below.refl _ _).alloc (Nat.le_refl _) _).alloc (by simp) _).alloc (by simp; omega) _
 have A : Ba y w.heap.size r := by rw [hy]; refine ⟨?_, fun i => ?_⟩; constructor <;> simp [go_sem]; simp [go_sem]
 have M : Ab y (w.heap.size + 1) m (.slice ad m.lg.length cap) := by rw [hy]; constructor <;> simp [go_sem]
 have Z : Ba y (w.heap.size + 1 + 1) ⟨0, 0, 0⟩ := by rw [hy]; refine ⟨?_, fun i => ?_⟩; constructor <;> simp [go_sem]; simp [go_sem]
 have hv1 := hv.below B0 hB;clear hv hB;go_enter func165, ntmps165
 obtain ⟨⟨x0, x1, x2⟩, xf⟩ := id A;have n0 := M.all;go_wp2_with fail
 go_at_call 172
 rw [← hy];clear n0 hy x0 x1 x2 xf;refine (II r s m ad cap y hv1 hl).mono ?_;rintro e v1 ⟨rfl, k1⟩;have A := A.below k1 A.lt;have M := M.below k1 M.lt;have Z := Z.below k1 Z.lt;have B1 := AG B0 k1;clear k1 B0 hv1;have Bn := Fp (q := w.heap.size + 1 + 1) r B1 (by omega);have hA2 := A.put2 p;have Bq : Bw w (v1.setCell (ja w.heap.size 2) (ji p)) := B1.setCell (p := (ja w.heap.size 2)) (Nat.le_refl _) _;have By := Fp (q := w.heap.size + 1 + 1) ⟨r.ep, r.ow, p⟩ Bq (by omega);obtain ⟨⟨x0, x1, x2⟩, xf⟩ := A;replace M := M.all;obtain ⟨⟨z0, z1, z2⟩, zf⟩ := Z;have g0 := zf 0;have g1 := zf 1;have g2 := zf 2;have f2 := xf 2;clear zf xf;obtain ⟨⟨q0, q1, q2⟩, qf⟩ := hA2;clear qf;dsimp only at q0 q1 q2 By;cases h1 : EP r s m
 focus
  have hP : Hid (DT r s m p = false) := by unfold Hid DT; rw [h1]; rfl
  have hQ : Hid (Df r s m p = r) := Gf hP.out;clear h1;have L1 := 0
 rotate_left;focus
  replace h1 : Hid _ := h1;by_cases h2 : p = 0
  focus
   have dh2 : (p == 0) = true := by simpa using h2
   have eh2 : (p != 0) = false := by simpa using h2
   have hP : Hid (DT r s m p = true) := by unfold Hid DT; rw [h1.out, decide_eq_true h2]; rfl
   have hQ : Hid (Df r s m p = ⟨r.ep, r.ow, p⟩) := by unfold Hid Df; rw [if_pos hP.out]
   replace h2 : Hid _ := h2;have L2 := 0
  rotate_left;focus
   have dh2 : (p == 0) = false := by rw [beq_eq_false_iff_ne]; exact h2
   have eh2 : (p != 0) = true := by simpa using h2
   replace h2 : Hid (¬ p = 0) := h2;by_cases h3 : p = m.al
   focus
    have dh3 : (p == m.al) = true := by simpa using h3
    have eh3 : (p != m.al) = false := by simpa using h3
    replace h3 : Hid _ := h3;by_cases h4 : m.ac = (m.lg.length : Int)
    focus
     have dh4 : (m.ac == (m.lg.length : Int)) = true := by simpa using h4
     have eh4 : (m.ac != (m.lg.length : Int)) = false := by simpa using h4
     have hP : Hid (DT r s m p = true) := by unfold Hid DT; rw [h1.out, decide_eq_true h3.out, decide_eq_true h4, Bool.and_true, Bool.or_true]; rfl
     have hQ : Hid (Df r s m p = ⟨r.ep, r.ow, p⟩) := by unfold Hid Df; rw [if_pos hP.out]
     replace h4 : Hid _ := h4;have L2 := 0
    rotate_left;focus
     have dh4 : (m.ac == (m.lg.length : Int)) = false := by rw [beq_eq_false_iff_ne]; exact h4
     have eh4 : (m.ac != (m.lg.length : Int)) = true := by simpa using h4
     have hP : Hid (DT r s m p = false) := by unfold Hid DT; rw [h1.out, decide_eq_false h2.out, decide_eq_false h4, Bool.and_false]; rfl
     have hQ : Hid (Df r s m p = r) := Gf hP.out;clear h4;have L1 := 0
    rotate_left
   rotate_left 2;focus
    have dh3 : (p == m.al) = false := by rw [beq_eq_false_iff_ne]; exact h3
    have eh3 : (p != m.al) = true := by simpa using h3
    have hP : Hid (DT r s m p = false) := by unfold Hid DT; rw [h1.out, decide_eq_false h2.out, decide_eq_false h3]; rfl
    have hQ : Hid (Df r s m p = r) := Gf hP.out;clear h3;have L1 := 0
   rotate_left
  rotate_left 3
 rotate_left 4;all_goals first
  | clear L1
    go_wp2
    refine bodyPost_ret (v := .tuple #[.agg #[ji r.ep, ji r.ow, ji r.pa], .bool false]) (by simp [results, results165, go_sem, *]) rfl ⟨by rw [hP.out, hQ.out], Bn⟩
  | clear L2
    go_wp2
    refine bodyPost_ret (v := .tuple #[.agg #[ji r.ep, ji r.ow, ji p], .bool true]) (by simp [results, results165, go_sem, *]) rfl ⟨by rw [hP.out, hQ.out], By⟩
end Go.Proofs.YtjmnaeeknomiaaaGreatDoor
namespace Go.Proofs.YtjmnaeeknomiaaaGreatDoor
open Go.ChangeShapes Go.WideShapes Go.ChangeAt Go.RowKit
open Go.ChangeMaps (open_string shut_string)
set_option linter.unusedVariables false
set_option maxRecDepth 100000
set_option maxHeartbeats 32000000
set_option linter.unusedSimpArgs false
open Go.Proofs.Tryz
def FJ (Bs : List AD) : Nat → Nat
 | 0 => 0
 | j + 1 => FJ Bs j + (Bs.getD j AD.nil).m.lg.length
theorem JO (Bs : List AD) {i j : Nat} (h : i ≤ j) : FJ Bs i ≤ FJ Bs j := by
 induction h with
 | refl => exact Nat.le_refl _
 | step _ ih => exact Nat.le_trans ih (by show _ ≤ FJ Bs _ + _; omega)
theorem Jv (Bs : List AD) {k : Nat} (h : k < Bs.length) : (Bs.getD k AD.nil).m.lg.length ≤ FJ Bs Bs.length :=
 Nat.le_trans (by show _ ≤ FJ Bs k + (Bs.getD k AD.nil).m.lg.length; omega) (JO Bs (i := k + 1) h)
attribute [local go_sem] ji ja
end Go.Proofs.YtjmnaeeknomiaaaGreatDoor
namespace Go.Proofs.YtjmnaeeknomiaaaGreatDoor
open Go.ChangeShapes Go.WideShapes Go.ChangeAt Go.RowKit
open Go.ChangeMaps (open_string shut_string)
set_option linter.unusedVariables false
set_option maxRecDepth 100000
set_option maxHeartbeats 32000000
set_option linter.unusedSimpArgs false
open Go.Proofs.Tryz
attribute [local go_sem] ji ja
structure EA (w : World) (x : AF) : Prop where
 t : MV w x.aT x.two
 tm : x.two.length ≤ maxLen
 ts : ∀ i, i < x.two.length → (x.two.getD i AD.nil).m.lg.length ≤ maxLen
 tc : x.two.length ≤ x.cT
 tn : x.aT = none → x.cT = 0
 n : AI As w x.aN x.net
 nm : x.net.length ≤ maxLen
 nn : x.aN = none → x.cN = 0
 g : AI Bz w x.aG x.ga
 gm : x.ga.length ≤ maxLen
 gn : x.aG = none → x.cG = 0
 i : AI AW w x.aL x.ln
 im : x.ln.length ≤ maxLen
 ic : x.aL = none → x.cL = 0
 s : AI Aw w x.aS x.sd
 sm : x.sd.length ≤ maxLen
 sn : x.aS = none → x.cS = 0
theorem EA.below {w w' : World} {x : AF} (h : EA w x) (k : Bw w w') : EA w' x :=
 ⟨h.t.below k (Nat.le_refl _), h.tm, h.ts, h.tc, h.tn, h.n.below k (h.n.lt CY (by omega)), h.nm, h.nn, h.g.below k (h.g.lt EE (by omega)), h.gm, h.gn, h.i.below k (h.i.lt Av (by omega)), h.im, h.ic, h.s.below k (h.s.lt DS (by omega)), h.sm, h.sn⟩
structure FL (x : AF) : Prop where
 t : x.two.length ≤ 1048576
 l : FJ x.two x.two.length ≤ 1048576
 n : x.net.length ≤ 1048576
 g : x.ga.length ≤ 1048576
 i : x.ln.length ≤ 1048576
 s : x.sd.length ≤ 1048576
theorem FL.ls {x : AF} (h : FL x) : ∀ i, i < x.two.length → (x.two.getD i AD.nil).m.lg.length ≤ 1048576 := fun i hi => Nat.le_trans (Jv x.two hi) h.l
theorem EA.v {w : World} {x : AF} (h : EA w x) (k : FL x) : Ck w x :=
 ⟨h.t.row, h.t.nest, h.n, h.g, h.i, h.s, k.t, k.ls, k.n, k.g, k.i, k.s, h.tc⟩
structure HF (lo hi : Nat) (w : World) (x : AF) : Prop where
 t : Er lo hi w (.slice x.aT x.two.length x.cT) x.two
 n : AA As 12 164 lo w (.slice x.aN x.net.length x.cN) x.net
 g : AA Bz 1 4 lo w (.slice x.aG x.ga.length x.cG) x.ga
 i : AA AW 8 27 lo w (.slice x.aL x.ln.length x.cL) x.ln
 s : AA Aw 8 41 lo w (.slice x.aS x.sd.length x.cS) x.sd
 nh : ∀ b, (Value.slice x.aN x.net.length x.cN).ownBlock = some b → b < hi
 gh : ∀ b, (Value.slice x.aG x.ga.length x.cG).ownBlock = some b → b < hi
 ih : ∀ b, (Value.slice x.aL x.ln.length x.cL).ownBlock = some b → b < hi
 sh : ∀ b, (Value.slice x.aS x.sd.length x.cS).ownBlock = some b → b < hi
 ap : ∀ j, j < x.two.length → ∀ b, (x.two.getD j AD.nil).v.ownBlock = some b → (Value.slice x.aL x.ln.length x.cL).ownBlock ≠ some b
theorem HF.in_ {lo hi : Nat} {w : World} {x : AF} (h : HF lo hi w x) (k : FL x) : EA w x := by
 have hm : (1048576 : Nat) ≤ maxLen := by unfold maxLen; omega
 exact ⟨h.t.view.2, Nat.le_trans k.t hm, fun i hi => Nat.le_trans (k.ls i hi) hm, h.t.row.capM, fun e => FC (by have := h.t.row; rw [e] at this; exact this), h.n.view.2, Nat.le_trans k.n hm, fun e => FC (by have := h.n; rw [e] at this; exact this), h.g.view.2, Nat.le_trans k.g hm, fun e => FC (by have := h.g; rw [e] at this; exact this), h.i.view.2, Nat.le_trans k.i hm, fun e => FC (by have := h.i; rw [e] at this; exact this), h.s.view.2, Nat.le_trans k.s hm, fun e => FC (by have := h.s; rw [e] at this; exact this)⟩
end Go.Proofs.YtjmnaeeknomiaaaGreatDoor
namespace Go.Proofs.YtjmnaeeknomiaaaGreatDoor
open Go.ChangeShapes Go.WideShapes Go.ChangeAt Go.RowKit
open Go.ChangeMaps (open_string shut_string)
set_option linter.unusedVariables false
set_option maxRecDepth 100000
set_option maxHeartbeats 32000000
set_option linter.unusedSimpArgs false
open Go.Proofs.Tryz
structure HE (lo mid hi : Nat) (w : World) (x : AF) : Prop where
 t : Er lo mid w (.slice x.aT x.two.length x.cT) x.two
 n : AA As 12 164 mid w (.slice x.aN x.net.length x.cN) x.net
 g : AA Bz 1 4 mid w (.slice x.aG x.ga.length x.cG) x.ga
 i : AA AW 8 27 mid w (.slice x.aL x.ln.length x.cL) x.ln
 s : AA Aw 8 41 mid w (.slice x.aS x.sd.length x.cS) x.sd
 nh : ∀ b, (Value.slice x.aN x.net.length x.cN).ownBlock = some b → b < hi
 gh : ∀ b, (Value.slice x.aG x.ga.length x.cG).ownBlock = some b → b < hi
 ih : ∀ b, (Value.slice x.aL x.ln.length x.cL).ownBlock = some b → b < hi
 sh : ∀ b, (Value.slice x.aS x.sd.length x.cS).ownBlock = some b → b < hi
 lm : lo ≤ mid
 mh : mid ≤ hi
theorem HE.m {lo mid hi : Nat} {w : World} {x : AF} (h : HE lo mid hi w x) : HF lo hi w x :=
 ⟨h.t.wide (Nat.le_refl _) h.mh, h.n.base h.lm, h.g.base h.lm, h.i.base h.lm, h.s.base h.lm, h.nh, h.gh, h.ih, h.sh, fun j hj b e e2 => by
  have h1 := h.t.nhi j hj b e
  have h2 := (h.i.lt b e2).1
  omega⟩
attribute [local go_sem] ji ja
def Cq : List AD := [⟨⟨true, 1, 1, [], 0, 0, 0⟩, none, 0⟩, ⟨⟨true, 2, 0, [], 0, 0, 0⟩, none, 0⟩]
theorem AA.nilM {X : Type} {enc : X → List Value} {n : Nat} {T : TypeId} {base : Nat} {w : World} : AA enc n T base w (.slice none 0 0) ([] : List X) := ⟨by simp [AT], .inl ⟨rfl, rfl⟩⟩
theorem Kf (w : World) : Er w.heap.size (w.heap.size + 1) (w.alloc (Obj.cells #[.bool true, ji 1, ji 1, .slice none 0 0, ji 0, ji 0, ji 0, .bool true, ji 2, ji 0, .slice none 0 0, ji 0, ji 0, ji 0] 54)) (.slice (some (ja w.heap.size 0)) 2 2) Cq := by
 have hn : ∀ i, i < Cq.length → (Cq.getD i AD.nil).v = .slice none 0 0 ∧ (Cq.getD i AD.nil).m.lg = [] := fun i hi => by
  match i, hi with
  | 0, _ => exact ⟨rfl, rfl⟩
  | 1, _ => exact ⟨rfl, rfl⟩
 have hb : ∀ i, i < Cq.length → ∀ g, (Cq.getD i AD.nil).v.ownBlock ≠ some g := fun i hi g e => by
  rw [(hn i hi).1] at e;cases e
 refine ⟨⟨rfl, .inr ⟨w.heap.size, 2, #[.bool true, ji 1, ji 1, .slice none 0 0, ji 0, ji 0, ji 0, .bool true, ji 2, ji 0, .slice none 0 0, ji 0, ji 0, ji 0], rfl, Nat.le_refl _, Cl w _, Nat.le_refl _, by unfold maxLen; omega, rfl, rfl⟩⟩, fun i hi => ?_, fun g e => ?_, fun i hi g e => absurd e (hb i hi g), fun i hi g h _ e => absurd e (hb i hi h), fun i j _ hj g h _ e => absurd e (hb j hj h)⟩
 ·
  rw [(hn i hi).1, (hn i hi).2];exact AA.nilM
 obtain rfl : w.heap.size = g := by simpa [Value.ownBlock] using e
 omega
theorem H7 (id po : Int) : (Ao id po).length ≤ 4 := by
 unfold Ao;split
 ·
  next h =>
  unfold Au at h;simp at h ⊢
  omega
 simp
theorem JL (id po : Int) : BA (Fb id po) = Au id po := by
 cases h : Au id po
 ·
  unfold BA Fb;simp [h]
 exact Hp h
def Ff (id po : Int) : Bx := if Au id po then Fb id po else AF.zero.p
theorem IH (id po : Int) (q : Nat) (a : Option Addr) (c : Nat) : AF.p ⟨id, po, ⟨1, 0, 0⟩, Cq, some (ja q 0), 2, [], none, 0, CE (Ao id po), a, c, [], none, 0, [], none, 0⟩ = Fb id po := rfl
theorem GE (id po : Int) (q : Nat) (a : Option Addr) (c : Nat) : FL ⟨id, po, ⟨1, 0, 0⟩, Cq, some (ja q 0), 2, [], none, 0, CE (Ao id po), a, c, [], none, 0, [], none, 0⟩ := by
 have h := H7 id po;have hg : (CE (Ao id po)).length ≤ 4 := by rw [Fy]; exact h
 refine ⟨?_, ?_, Nat.zero_le _, ?_, Nat.zero_le _, Nat.zero_le _⟩
 ·
  show (2 : Nat) ≤ _; omega
 ·
  show (0 : Nat) ≤ _; omega
 show (CE (Ao id po)).length ≤ _; omega
theorem H0 : FL AF.zero := ⟨Nat.zero_le _, Nat.zero_le _, Nat.zero_le _, Nat.zero_le _, Nat.zero_le _, Nat.zero_le _⟩
theorem LJ {lo hi : Nat} {w : World} (h : lo ≤ hi) : HE lo lo hi w AF.zero := by
 refine ⟨⟨AA.nilM, fun i hi => absurd hi (Nat.not_lt_zero _), fun g e => (by cases e), fun i hi => absurd hi (Nat.not_lt_zero _), fun i hi => absurd hi (Nat.not_lt_zero _), fun i j _ hj => absurd hj (Nat.not_lt_zero _)⟩, AA.nilM, AA.nilM, AA.nilM, AA.nilM, fun b e => (by cases e), fun b e => (by cases e), fun b e => (by cases e), fun b e => (by cases e), Nat.le_refl _, h⟩
end Go.Proofs.YtjmnaeeknomiaaaGreatDoor
namespace Go.Proofs.YtjmnaeeknomiaaaGreatDoor
open Go.ChangeShapes Go.WideShapes Go.ChangeAt Go.RowKit
open Go.ChangeMaps (open_string shut_string)
set_option linter.unusedVariables false
set_option maxRecDepth 100000
set_option maxHeartbeats 32000000
set_option linter.unusedSimpArgs false
open Go.Proofs.Tryz
end Go.Proofs.YtjmnaeeknomiaaaGreatDoor
