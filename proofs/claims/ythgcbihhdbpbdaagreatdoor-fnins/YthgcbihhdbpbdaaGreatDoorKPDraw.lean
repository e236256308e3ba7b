/- Ports drawn: right ones. -/
import Derived.Test.YthgcbihhdbpbdaaGreatDoorRows
import Derived.WalkKit
import Derived.ProofKit
import Derived.OpenShut
import Derived.ShutString
import Derived.ChangeOld
import Derived.Below
import Derived.Deep.QuietTactic
import Derived.BigQuiet
import Derived.WalkSmall
import Derived.Laws.OwnMore
import Derived.WalkSpells
import Derived.WalkLawsBesides
import Derived.Test.YthgcbihhdbpbdaaGreatDoorKPort4s
import Derived.Test.YthgcbihhdbpbdaaGreatDoorKPort5
import Derived.Test.YthgcbihhdbpbdaaGreatDoorKPort6s
import Derived.Test.YthgcbihhdbpbdaaGreatDoorKVecDraw
namespace Go.Proofs.YthgcbihhdbpbdaaGreatDoor
open Go.ChangeShapes Go.WideShapes Go.ChangeAt Go.RowKit
open Go.ChangeMaps (open_string shut_string)
set_option linter.unusedVariables false
set_option maxRecDepth 100000

theorem PBox.put {w : World} {q : Nat} {x : Pt} (z : Pt) (h : PBox w q x) : PBox (((((((((((w.setCell ⟨q, 0, none⟩ (.bool z.up)).setCell ⟨q, 1, none⟩ (.bool z.has)).setCell ⟨q, 2, none⟩ (.int .i64 z.r)).setCell ⟨q, 3, none⟩ (.int .i64 z.c)).setCell ⟨q, 4, none⟩ (.int .i64 z.b)).setCell ⟨q, 5, none⟩ (.int .i64 z.p)).setCell ⟨q, 6, none⟩ (.int .i64 z.h)).setCell ⟨q, 7, none⟩ (.int .i64 z.l)).setCell ⟨q, 8, none⟩ (.int .i64 z.ro)).setCell ⟨q, 9, none⟩ (.int .i64 z.wa)).setCell ⟨q, 10, none⟩ (.bool z.op)) q z := (((((((((((h.set0 z.up).set1 z.has).set2 z.r).set3 z.c).set4 z.b).set5 z.p).set6 z.h).set7 z.l).set8 z.ro).set9 z.wa).set10 z.op)
theorem PBox.putOther {w : World} {q q' : Nat} {x : Pt} (z : Pt) (h : PBox w q x) (hne : q ≠ q') : PBox (((((((((((w.setCell ⟨q', 0, none⟩ (.bool z.up)).setCell ⟨q', 1, none⟩ (.bool z.has)).setCell ⟨q', 2, none⟩ (.int .i64 z.r)).setCell ⟨q', 3, none⟩ (.int .i64 z.c)).setCell ⟨q', 4, none⟩ (.int .i64 z.b)).setCell ⟨q', 5, none⟩ (.int .i64 z.p)).setCell ⟨q', 6, none⟩ (.int .i64 z.h)).setCell ⟨q', 7, none⟩ (.int .i64 z.l)).setCell ⟨q', 8, none⟩ (.int .i64 z.ro)).setCell ⟨q', 9, none⟩ (.int .i64 z.wa)).setCell ⟨q', 10, none⟩ (.bool z.op)) q x := (((((((((((h.other hne).other hne).other hne).other hne).other hne).other hne).other hne).other hne).other hne).other hne).other hne)
theorem DV.put {w y : World} {cb : Nat} {ad : Option Addr} {len cap : Nat} {N : Nat} (z : Pt) (h : DV w cb ad len cap y) (hN : w.heap.size ≤ N) (hcb : cb < w.heap.size) : DV w cb ad len cap (((((((((((y.setCell ⟨N, 0, none⟩ (.bool z.up)).setCell ⟨N, 1, none⟩ (.bool z.has)).setCell ⟨N, 2, none⟩ (.int .i64 z.r)).setCell ⟨N, 3, none⟩ (.int .i64 z.c)).setCell ⟨N, 4, none⟩ (.int .i64 z.b)).setCell ⟨N, 5, none⟩ (.int .i64 z.p)).setCell ⟨N, 6, none⟩ (.int .i64 z.h)).setCell ⟨N, 7, none⟩ (.int .i64 z.l)).setCell ⟨N, 8, none⟩ (.int .i64 z.ro)).setCell ⟨N, 9, none⟩ (.int .i64 z.wa)).setCell ⟨N, 10, none⟩ (.bool z.op)) := (((((((((((h.set hN hcb _).set hN hcb _).set hN hcb _).set hN hcb _).set hN hcb _).set hN hcb _).set hN hcb _).set hN hcb _).set hN hcb _).set hN hcb _).set hN hcb _)
theorem below_put {B : Nat} {a w : World} {N : Nat} (z : Pt) (h : Below B a w) (hN : B ≤ N) : Below B a (((((((((((w.setCell ⟨N, 0, none⟩ (.bool z.up)).setCell ⟨N, 1, none⟩ (.bool z.has)).setCell ⟨N, 2, none⟩ (.int .i64 z.r)).setCell ⟨N, 3, none⟩ (.int .i64 z.c)).setCell ⟨N, 4, none⟩ (.int .i64 z.b)).setCell ⟨N, 5, none⟩ (.int .i64 z.p)).setCell ⟨N, 6, none⟩ (.int .i64 z.h)).setCell ⟨N, 7, none⟩ (.int .i64 z.l)).setCell ⟨N, 8, none⟩ (.int .i64 z.ro)).setCell ⟨N, 9, none⟩ (.int .i64 z.wa)).setCell ⟨N, 10, none⟩ (.bool z.op)) := (((((((((((h.setCell hN _).setCell hN _).setCell hN _).setCell hN _).setCell hN _).setCell hN _).setCell hN _).setCell hN _).setCell hN _).setCell hN _).setCell hN _)
theorem DV.later {w y y' : World} {cb : Nat} {ad : Option Addr} {len cap : Nat} (h : DV w cb ad len cap y) (k : Below y.heap.size y y') : DV w cb ad len cap y' :=
  ⟨h.cur.carry (k.block _ h.cur.lt), grown_trans h.gr ⟨k.os, k.tape, k.output, k.size, fun i hi _ => k.block i hi⟩⟩
def DrewP (w : World) (cb : Nat) (ad : Option Addr) (len cap : Nat) (f : Nat → Int) (e : Ending) (w' : World) : Prop := ∃ x : Pt, e = .returned (.agg #[.bool x.up, .bool x.has, .int .i64 x.r, .int .i64 x.c, .int .i64 x.b, .int .i64 x.p, .int .i64 x.h, .int .i64 x.l, .int .i64 x.ro, .int .i64 x.wa, .bool x.op]) ∧ Src w' cb ad len cap f ∧ w.grownBy w' (some cb)
set_option maxHeartbeats 8000000 in
theorem drawR7 {cb : Nat} {ad : Option Addr} {len cap : Nat} {f : Nat → Int} (w : World) (hs : Src w cb ad len cap f) (hcb : cb < w.heap.size) :
    Calls Tryz.prog 101 #[.pointer (some ⟨cb, 0, none⟩)] w fun e w' => DrewP w cb ad len cap f e w' := by
  obtain ⟨R, hRe⟩ : ∃ R, R = w.heap.size := ⟨_, rfl⟩
  have Rw : w.heap.size ≤ R := by omega
  have Rc : R ≠ cb := by omega
  obtain ⟨y0, hx0⟩ : ∃ y_, y_ = w.alloc (Obj.cells #[.bool false, .bool false, .int .i64 0, .int .i64 0, .int .i64 0, .int .i64 0, .int .i64 0, .int .i64 0, .int .i64 0, .int .i64 0, .bool false] 47) := ⟨_, rfl⟩
  have DD : DV w cb ad len cap y0 := by rw [hx0]; exact (DV.start hs).alloc _
  have Q : PBox y0 R ⟨false, false, 0, 0, 0, 0, 0, 0, 0, 0, false⟩ := by rw [hx0, hRe]; exact PBox.new w _ ⟨false, false, 0, 0, 0, 0, 0, 0, 0, 0, false⟩
  go_enter Tryz.func101, Tryz.ntmps101
  go_wp2_with fail
  go_at_call 52
  rw [← hx0, ← hRe]
  clear hx0 hRe
  refine (drawOnce (DD.src hs) 5 (by omega) (by omega)).mono ?_
  rintro e y1 ⟨o, rfl, sq, gq⟩
  have DD := DD.step sq gq
  have Q := Q.grown gq Rc
  clear sq gq
  cases o
  rotate_left
  · have Q' := Q
    obtain ⟨⟨q0, q1, q2, q3, q4, q5, q6, q7, q8, q9, q10⟩, qf⟩ := Q
    go_wp2
    obtain ⟨yz, hz⟩ : ∃ y, y = (((((((((((y1.setCell ⟨R, 0, none⟩ (.bool false)).setCell ⟨R, 1, none⟩ (.bool false)).setCell ⟨R, 2, none⟩ (.int .i64 0)).setCell ⟨R, 3, none⟩ (.int .i64 0)).setCell ⟨R, 4, none⟩ (.int .i64 0)).setCell ⟨R, 5, none⟩ (.int .i64 0)).setCell ⟨R, 6, none⟩ (.int .i64 0)).setCell ⟨R, 7, none⟩ (.int .i64 0)).setCell ⟨R, 8, none⟩ (.int .i64 0)).setCell ⟨R, 9, none⟩ (.int .i64 0)).setCell ⟨R, 10, none⟩ (.bool false)) := ⟨_, rfl⟩
    have DZ : DV w cb ad len cap yz := by rw [hz]; exact DD.put ⟨false, false, 0, 0, 0, 0, 0, 0, 0, 0, false⟩ Rw hcb
    have Z_ : PBox yz R ⟨false, false, 0, 0, 0, 0, 0, 0, 0, 0, false⟩ := by rw [hz]; exact Q'.put ⟨false, false, 0, 0, 0, 0, 0, 0, 0, 0, false⟩
    rw [← hz]
    clear hz Q' DD
    obtain ⟨e0, e1, e2, e3, e4, e5, e6, e7, e8, e9, e10⟩ := Z_.at_
    exact bodyPost_ret (v := .agg #[.bool false, .bool false, .int .i64 0, .int .i64 0, .int .i64 0, .int .i64 0, .int .i64 0, .int .i64 0, .int .i64 0, .int .i64 0, .bool false]) (by simp only [results, Tryz.results101]; simp [go_sem, e0, e1, e2, e3, e4, e5, e6, e7, e8, e9, e10]) rfl ⟨⟨false, false, 0, 0, 0, 0, 0, 0, 0, 0, false⟩, rfl, DZ.src hs, DZ.gr⟩
  obtain ⟨B, hBe⟩ : ∃ B, B = y1.heap.size := ⟨_, rfl⟩
  have hBc : B ≠ cb := by have := DD.cur.lt; omega
  obtain ⟨y2, hx⟩ : ∃ y_, y_ = y1.alloc (Obj.cells #[.int .i64 0, .int .i64 2, .int .i64 4] 3) := ⟨_, rfl⟩
  have hg : ∀ i, i < 3 → ∃ y, y2.cell? ⟨B, i, none⟩ = some (.int .i64 y) ∧ (-1 ≤ y ∧ y ≤ 100) := by
    intro i hi
    rw [hx, hBe]
    obtain rfl | rfl | rfl : i = 0 ∨ i = 1 ∨ i = 2 := by omega
    · exact ⟨_, lit_at y1 _ _ 0 rfl, by omega⟩
    · exact ⟨_, lit_at y1 _ _ 1 rfl, by omega⟩
    · exact ⟨_, lit_at y1 _ _ 2 rfl, by omega⟩
  have kq : Below y1.heap.size y1 y2 := by rw [hx]; exact (Below.refl _ _).alloc (Nat.le_refl _) _
  have DD := DD.later kq
  have Q := Q.below kq Q.lt
  clear kq
  go_wp2_with fail
  go_at_call 47
  rw [← hx, ← hBe]
  clear hx hBe
  refine (pickIntP (DD.src hs) (fun y => -1 ≤ y ∧ y ≤ 100) B 3 3 hBc (by omega) (by omega) hg).mono ?_
  rintro e y3 ⟨v, rfl, vr, sq, gq⟩
  clear hg hBc
  have DD := DD.step sq gq
  have Q := Q.grown gq Rc
  clear sq gq
  obtain ⟨x, hxx⟩ : ∃ x : Pt, x = ⟨true, false, 0, 0, 0, 0, 0, 0, 2, v, false⟩ := ⟨_, rfl⟩
  obtain ⟨N, hq⟩ : ∃ N, N = y3.heap.size := ⟨_, rfl⟩
  have Nw : w.heap.size ≤ N := by have := DD.gr.size; omega
  have Nc : N ≠ cb := by have := DD.cur.lt; omega
  obtain ⟨y4, hx⟩ : ∃ y_, y_ = y3.alloc (Obj.cells #[.bool true, .bool false, .int .i64 0, .int .i64 0, .int .i64 0, .int .i64 0, .int .i64 0, .int .i64 0, .int .i64 2, .int .i64 v, .bool false] 47) := ⟨_, rfl⟩
  have RN : R ≠ N := by have := Q.lt; omega
  have N_ : PBox y4 N ⟨true, false, 0, 0, 0, 0, 0, 0, 2, v, false⟩ := by rw [hx, hq]; exact PBox.new y3 _ ⟨true, false, 0, 0, 0, 0, 0, 0, 2, v, false⟩
  have kq : Below y3.heap.size y3 y4 := by rw [hx]; exact (Below.refl _ _).alloc (Nat.le_refl _) _
  have DD := DD.later kq
  have Q := Q.below kq Q.lt
  clear kq
  go_wp2_with fail
  go_at_call 52
  rw [← hx, ← hq]
  clear hx hq
  rw [← hxx] at N_
  clear hxx
  refine (drawOnce (DD.src hs) 3 (by omega) (by omega)).mono ?_
  rintro e y5 ⟨o, rfl, sq, gq⟩
  have DD := DD.step sq gq
  have Q := Q.grown gq Rc
  have N_ := N_.grown gq Nc
  clear sq gq
  cases o
  rotate_left
  · obtain ⟨n0, n1, n2, n3, n4, n5, n6, n7, n8, n9, n10⟩ := N_.at_
    go_wp2_with fail
    go_at_call 123
    refine (openS x y5).mono ?_
    rintro e y6 ⟨rfl, kq⟩
    clear n0 n1 n2 n3 n4 n5 n6 n7 n8 n9 n10
    have DD := DD.later kq
    have Q := Q.below kq Q.lt
    have N_ := N_.below kq N_.lt
    clear kq
    go_wp2_with fail
    go_at_call 56
    refine (drawBelow (DD.src hs) 3 (by omega) (by omega)).mono ?_
    rintro e y7 ⟨u, rfl, ua, ub, sq, gq⟩
    have DD := DD.step sq gq
    have Q := Q.grown gq Rc
    have N_ := N_.grown gq Nc
    clear sq gq
    have hw : IntKind.i64.wrap (1 + u) = 1 + u := by rw [IntKind.wrap_i64]; omega
    go_wp2_with fail
    go_at_call 125
    refine (turnS ⟨x.up, x.has, x.r, x.c, x.b, x.p, x.h, x.l, x.ro, x.wa, raOp x.ro x.wa⟩ (1 + u) y7).mono ?_
    rintro e y8 ⟨rfl, kq⟩
    have DD := DD.later kq
    have Q := Q.below kq Q.lt
    have N_ := N_.below kq N_.lt
    clear kq
    generalize turnR ⟨x.up, x.has, x.r, x.c, x.b, x.p, x.h, x.l, x.ro, x.wa, raOp x.ro x.wa⟩ (1 + u) = z
    have Q' := Q
    obtain ⟨⟨q0, q1, q2, q3, q4, q5, q6, q7, q8, q9, q10⟩, qf⟩ := Q
    go_wp2
    obtain ⟨yz, hz⟩ : ∃ y, y = (((((((((((y8.setCell ⟨R, 0, none⟩ (.bool z.up)).setCell ⟨R, 1, none⟩ (.bool z.has)).setCell ⟨R, 2, none⟩ (.int .i64 z.r)).setCell ⟨R, 3, none⟩ (.int .i64 z.c)).setCell ⟨R, 4, none⟩ (.int .i64 z.b)).setCell ⟨R, 5, none⟩ (.int .i64 z.p)).setCell ⟨R, 6, none⟩ (.int .i64 z.h)).setCell ⟨R, 7, none⟩ (.int .i64 z.l)).setCell ⟨R, 8, none⟩ (.int .i64 z.ro)).setCell ⟨R, 9, none⟩ (.int .i64 z.wa)).setCell ⟨R, 10, none⟩ (.bool z.op)) := ⟨_, rfl⟩
    have DZ : DV w cb ad len cap yz := by rw [hz]; exact DD.put z Rw hcb
    have Z_ : PBox yz R z := by rw [hz]; exact Q'.put z
    rw [← hz]
    clear hz Q' DD
    obtain ⟨e0, e1, e2, e3, e4, e5, e6, e7, e8, e9, e10⟩ := Z_.at_
    exact bodyPost_ret (v := .agg #[.bool z.up, .bool z.has, .int .i64 z.r, .int .i64 z.c, .int .i64 z.b, .int .i64 z.p, .int .i64 z.h, .int .i64 z.l, .int .i64 z.ro, .int .i64 z.wa, .bool z.op]) (by simp only [results, Tryz.results101]; simp [go_sem, e0, e1, e2, e3, e4, e5, e6, e7, e8, e9, e10]) rfl ⟨z, rfl, DZ.src hs, DZ.gr⟩
  obtain ⟨n0, n1, n2, n3, n4, n5, n6, n7, n8, n9, n10⟩ := N_.at_
  go_wp2_with fail
  go_at_call 123
  refine (openS x y5).mono ?_
  rintro e y6 ⟨rfl, kq⟩
  clear n0 n1 n2 n3 n4 n5 n6 n7 n8 n9 n10
  have DD := DD.later kq
  have Q := Q.below kq Q.lt
  have N_ := N_.below kq N_.lt
  clear kq
  have hc2 : cb < y6.heap.size := DD.cur.lt
  go_wp2_with fail
  go_at_call 80
  refine (drawR6 y6 (DD.src hs) hc2).mono ?_
  rintro e y7 ⟨r, c, b, p, rfl, _, sq, gq⟩
  clear hc2
  have DD := DD.step sq gq
  have Q := Q.grown gq Rc
  have N_ := N_.grown gq Nc
  clear sq gq
  go_wp2_with fail
  go_at_call 56
  refine (drawBelow (DD.src hs) 4 (by omega) (by omega)).mono ?_
  rintro e y8 ⟨k, rfl, ka, kb, sq, gq⟩
  have DD := DD.step sq gq
  have Q := Q.grown gq Rc
  have N_ := N_.grown gq Nc
  clear sq gq
  go_wp2_with fail
  go_at_call 113
  refine (claimS ⟨x.up, x.has, x.r, x.c, x.b, x.p, x.h, x.l, x.ro, x.wa, raOp x.ro x.wa⟩ r c b p k y8).mono ?_
  rintro e y9 ⟨rfl, kq⟩
  have DD := DD.later kq
  have Q := Q.below kq Q.lt
  have N_ := N_.below kq N_.lt
  clear kq
  generalize claimR ⟨x.up, x.has, x.r, x.c, x.b, x.p, x.h, x.l, x.ro, x.wa, raOp x.ro x.wa⟩ r c b p k = x2
  have N' := N_
  obtain ⟨⟨n0, n1, n2, n3, n4, n5, n6, n7, n8, n9, n10⟩, nf⟩ := N_
  go_wp2_with fail
  go_at_call 52
  clear n0 n1 n2 n3 n4 n5 n6 n7 n8 n9 n10 nf
  obtain ⟨y10, hx⟩ : ∃ y_, y_ = (((((((((((y9.setCell ⟨N, 0, none⟩ (.bool x2.up)).setCell ⟨N, 1, none⟩ (.bool x2.has)).setCell ⟨N, 2, none⟩ (.int .i64 x2.r)).setCell ⟨N, 3, none⟩ (.int .i64 x2.c)).setCell ⟨N, 4, none⟩ (.int .i64 x2.b)).setCell ⟨N, 5, none⟩ (.int .i64 x2.p)).setCell ⟨N, 6, none⟩ (.int .i64 x2.h)).setCell ⟨N, 7, none⟩ (.int .i64 x2.l)).setCell ⟨N, 8, none⟩ (.int .i64 x2.ro)).setCell ⟨N, 9, none⟩ (.int .i64 x2.wa)).setCell ⟨N, 10, none⟩ (.bool x2.op)) := ⟨_, rfl⟩
  have D_ : DV w cb ad len cap y10 := by rw [hx]; exact DD.put x2 Nw hcb
  have N_ : PBox y10 N x2 := by rw [hx]; exact N'.put x2
  have Q_ : PBox y10 R ⟨false, false, 0, 0, 0, 0, 0, 0, 0, 0, false⟩ := by rw [hx]; exact Q.putOther x2 RN
  rw [← hx]
  clear hx DD Q N'
  have DD := D_
  have Q := Q_
  clear D_ Q_
  refine (drawOnce (DD.src hs) 3 (by omega) (by omega)).mono ?_
  rintro e y11 ⟨o, rfl, sq, gq⟩
  have DD := DD.step sq gq
  have Q := Q.grown gq Rc
  have N_ := N_.grown gq Nc
  clear sq gq
  cases o
  · obtain ⟨n0, n1, n2, n3, n4, n5, n6, n7, n8, n9, n10⟩ := N_.at_
    go_wp2_with fail
    go_at_call 123
    refine (openS x2 y11).mono ?_
    rintro e y12 ⟨rfl, kq⟩
    clear n0 n1 n2 n3 n4 n5 n6 n7 n8 n9 n10
    have DD := DD.later kq
    have Q := Q.below kq Q.lt
    have N_ := N_.below kq N_.lt
    clear kq
    go_wp2_with fail
    go_at_call 56
    refine (drawBelow (DD.src hs) 3 (by omega) (by omega)).mono ?_
    rintro e y13 ⟨u, rfl, ua, ub, sq, gq⟩
    have DD := DD.step sq gq
    have Q := Q.grown gq Rc
    have N_ := N_.grown gq Nc
    clear sq gq
    have hw : IntKind.i64.wrap (1 + u) = 1 + u := by rw [IntKind.wrap_i64]; omega
    go_wp2_with fail
    go_at_call 125
    refine (turnS ⟨x2.up, x2.has, x2.r, x2.c, x2.b, x2.p, x2.h, x2.l, x2.ro, x2.wa, raOp x2.ro x2.wa⟩ (1 + u) y13).mono ?_
    rintro e y14 ⟨rfl, kq⟩
    have DD := DD.later kq
    have Q := Q.below kq Q.lt
    have N_ := N_.below kq N_.lt
    clear kq
    generalize turnR ⟨x2.up, x2.has, x2.r, x2.c, x2.b, x2.p, x2.h, x2.l, x2.ro, x2.wa, raOp x2.ro x2.wa⟩ (1 + u) = z
    have Q' := Q
    obtain ⟨⟨q0, q1, q2, q3, q4, q5, q6, q7, q8, q9, q10⟩, qf⟩ := Q
    go_wp2
    obtain ⟨yz, hz⟩ : ∃ y, y = (((((((((((y14.setCell ⟨R, 0, none⟩ (.bool z.up)).setCell ⟨R, 1, none⟩ (.bool z.has)).setCell ⟨R, 2, none⟩ (.int .i64 z.r)).setCell ⟨R, 3, none⟩ (.int .i64 z.c)).setCell ⟨R, 4, none⟩ (.int .i64 z.b)).setCell ⟨R, 5, none⟩ (.int .i64 z.p)).setCell ⟨R, 6, none⟩ (.int .i64 z.h)).setCell ⟨R, 7, none⟩ (.int .i64 z.l)).setCell ⟨R, 8, none⟩ (.int .i64 z.ro)).setCell ⟨R, 9, none⟩ (.int .i64 z.wa)).setCell ⟨R, 10, none⟩ (.bool z.op)) := ⟨_, rfl⟩
    have DZ : DV w cb ad len cap yz := by rw [hz]; exact DD.put z Rw hcb
    have Z_ : PBox yz R z := by rw [hz]; exact Q'.put z
    rw [← hz]
    clear hz Q' DD
    obtain ⟨e0, e1, e2, e3, e4, e5, e6, e7, e8, e9, e10⟩ := Z_.at_
    exact bodyPost_ret (v := .agg #[.bool z.up, .bool z.has, .int .i64 z.r, .int .i64 z.c, .int .i64 z.b, .int .i64 z.p, .int .i64 z.h, .int .i64 z.l, .int .i64 z.ro, .int .i64 z.wa, .bool z.op]) (by simp only [results, Tryz.results101]; simp [go_sem, e0, e1, e2, e3, e4, e5, e6, e7, e8, e9, e10]) rfl ⟨z, rfl, DZ.src hs, DZ.gr⟩
  obtain ⟨n0, n1, n2, n3, n4, n5, n6, n7, n8, n9, n10⟩ := N_.at_
  go_wp2_with fail
  go_at_call 124
  refine (fadeS x2 y11).mono ?_
  rintro e y12 ⟨rfl, kq⟩
  clear n0 n1 n2 n3 n4 n5 n6 n7 n8 n9 n10
  have DD := DD.later kq
  have Q := Q.below kq Q.lt
  have N_ := N_.below kq N_.lt
  clear kq
  generalize fadeR x2 = x3
  have N' := N_
  obtain ⟨⟨n0, n1, n2, n3, n4, n5, n6, n7, n8, n9, n10⟩, nf⟩ := N_
  go_wp2_with fail
  go_at_call 123
  clear n0 n1 n2 n3 n4 n5 n6 n7 n8 n9 n10 nf
  obtain ⟨y13, hx⟩ : ∃ y_, y_ = (((((((((((y12.setCell ⟨N, 0, none⟩ (.bool x3.up)).setCell ⟨N, 1, none⟩ (.bool x3.has)).setCell ⟨N, 2, none⟩ (.int .i64 x3.r)).setCell ⟨N, 3, none⟩ (.int .i64 x3.c)).setCell ⟨N, 4, none⟩ (.int .i64 x3.b)).setCell ⟨N, 5, none⟩ (.int .i64 x3.p)).setCell ⟨N, 6, none⟩ (.int .i64 x3.h)).setCell ⟨N, 7, none⟩ (.int .i64 x3.l)).setCell ⟨N, 8, none⟩ (.int .i64 x3.ro)).setCell ⟨N, 9, none⟩ (.int .i64 x3.wa)).setCell ⟨N, 10, none⟩ (.bool x3.op)) := ⟨_, rfl⟩
  have D_ : DV w cb ad len cap y13 := by rw [hx]; exact DD.put x3 Nw hcb
  have N_ : PBox y13 N x3 := by rw [hx]; exact N'.put x3
  have Q_ : PBox y13 R ⟨false, false, 0, 0, 0, 0, 0, 0, 0, 0, false⟩ := by rw [hx]; exact Q.putOther x3 RN
  rw [← hx]
  clear hx DD Q N'
  have DD := D_
  have Q := Q_
  clear D_ Q_
  refine (openS x3 y13).mono ?_
  rintro e y14 ⟨rfl, kq⟩
  have DD := DD.later kq
  have Q := Q.below kq Q.lt
  have N_ := N_.below kq N_.lt
  clear kq
  go_wp2_with fail
  go_at_call 56
  refine (drawBelow (DD.src hs) 3 (by omega) (by omega)).mono ?_
  rintro e y15 ⟨u, rfl, ua, ub, sq, gq⟩
  have DD := DD.step sq gq
  have Q := Q.grown gq Rc
  have N_ := N_.grown gq Nc
  clear sq gq
  have hw : IntKind.i64.wrap (1 + u) = 1 + u := by rw [IntKind.wrap_i64]; omega
  go_wp2_with fail
  go_at_call 125
  refine (turnS ⟨x3.up, x3.has, x3.r, x3.c, x3.b, x3.p, x3.h, x3.l, x3.ro, x3.wa, raOp x3.ro x3.wa⟩ (1 + u) y15).mono ?_
  rintro e y16 ⟨rfl, kq⟩
  have DD := DD.later kq
  have Q := Q.below kq Q.lt
  have N_ := N_.below kq N_.lt
  clear kq
  generalize turnR ⟨x3.up, x3.has, x3.r, x3.c, x3.b, x3.p, x3.h, x3.l, x3.ro, x3.wa, raOp x3.ro x3.wa⟩ (1 + u) = z
  have Q' := Q
  obtain ⟨⟨q0, q1, q2, q3, q4, q5, q6, q7, q8, q9, q10⟩, qf⟩ := Q
  go_wp2
  obtain ⟨yz, hz⟩ : ∃ y, y = (((((((((((y16.setCell ⟨R, 0, none⟩ (.bool z.up)).setCell ⟨R, 1, none⟩ (.bool z.has)).setCell ⟨R, 2, none⟩ (.int .i64 z.r)).setCell ⟨R, 3, none⟩ (.int .i64 z.c)).setCell ⟨R, 4, none⟩ (.int .i64 z.b)).setCell ⟨R, 5, none⟩ (.int .i64 z.p)).setCell ⟨R, 6, none⟩ (.int .i64 z.h)).setCell ⟨R, 7, none⟩ (.int .i64 z.l)).setCell ⟨R, 8, none⟩ (.int .i64 z.ro)).setCell ⟨R, 9, none⟩ (.int .i64 z.wa)).setCell ⟨R, 10, none⟩ (.bool z.op)) := ⟨_, rfl⟩
  have DZ : DV w cb ad len cap yz := by rw [hz]; exact DD.put z Rw hcb
  have Z_ : PBox yz R z := by rw [hz]; exact Q'.put z
  rw [← hz]
  clear hz Q' DD
  obtain ⟨e0, e1, e2, e3, e4, e5, e6, e7, e8, e9, e10⟩ := Z_.at_
  exact bodyPost_ret (v := .agg #[.bool z.up, .bool z.has, .int .i64 z.r, .int .i64 z.c, .int .i64 z.b, .int .i64 z.p, .int .i64 z.h, .int .i64 z.l, .int .i64 z.ro, .int .i64 z.wa, .bool z.op]) (by simp only [results, Tryz.results101]; simp [go_sem, e0, e1, e2, e3, e4, e5, e6, e7, e8, e9, e10]) rfl ⟨z, rfl, DZ.src hs, DZ.gr⟩

end Go.Proofs.YthgcbihhdbpbdaaGreatDoor
