/- Ports drawn. -/
import Derived.Test.YthgcbihhdbpbdaaGreatDoorRows
import Derived.WalkKit
import Derived.ProofKit
import Derived.OpenShut
import Derived.ShutString
import Derived.ChangeOld
import Derived.Below
import Derived.Deep.QuietTactic
import Derived.BigQuiet
import Derived.WalkSmall
import Derived.Laws.OwnMore
import Derived.WalkSpells
import Derived.WalkLawsBesides
import Derived.Deep.Cut
import Derived.Test.YthgcbihhdbpbdaaGreatDoorKPDraw
namespace Go.Proofs.YthgcbihhdbpbdaaGreatDoor
open Go.ChangeShapes Go.WideShapes Go.ChangeAt Go.RowKit
open Go.ChangeMaps (open_string shut_string)
set_option linter.unusedVariables false
set_option maxRecDepth 100000

set_option maxHeartbeats 8000000 in
theorem drawL7 {cb : Nat} {ad : Option Addr} {len cap : Nat} {f : Nat → Int} (w : World) (hs : Src w cb ad len cap f) (hcb : cb < w.heap.size) :
    Calls Tryz.prog 68 #[.pointer (some ⟨cb, 0, none⟩)] w fun e w' => DrewP w cb ad len cap f e w' := by
  obtain ⟨R, hRe⟩ : ∃ R, R = w.heap.size := ⟨_, rfl⟩
  have Rw : w.heap.size ≤ R := by omega
  have Rc : R ≠ cb := by omega
  obtain ⟨y0, hx0⟩ : ∃ y_, y_ = w.alloc (Obj.cells #[.bool false, .bool false, .int .i64 0, .int .i64 0, .int .i64 0, .int .i64 0, .int .i64 0, .int .i64 0, .int .i64 0, .int .i64 0, .bool false] 47) := ⟨_, rfl⟩
  have DD : DV w cb ad len cap y0 := by rw [hx0]; exact (DV.start hs).alloc _
  have Q : PBox y0 R ⟨false, false, 0, 0, 0, 0, 0, 0, 0, 0, false⟩ := by rw [hx0, hRe]; exact PBox.new w _ ⟨false, false, 0, 0, 0, 0, 0, 0, 0, 0, false⟩
  have hc2 : cb < y0.heap.size := DD.cur.lt
  go_enter Tryz.func68, Tryz.ntmps68
  go_wp2_with fail
  go_at_call 101
  rw [← hx0, ← hRe]
  clear hx0 hRe
  refine (drawR7 y0 (DD.src hs) hc2).mono ?_
  rintro e y1 ⟨x, rfl, sq, gq⟩
  clear hc2
  have DD := DD.step sq gq
  have Q := Q.grown gq Rc
  clear sq gq
  obtain ⟨N, hq⟩ : ∃ N, N = y1.heap.size := ⟨_, rfl⟩
  have Nw : w.heap.size ≤ N := by have := DD.gr.size; omega
  have Nc : N ≠ cb := by have := DD.cur.lt; omega
  obtain ⟨y2, hx⟩ : ∃ y_, y_ = y1.alloc (Obj.cells #[.bool x.up, .bool x.has, .int .i64 x.r, .int .i64 x.c, .int .i64 x.b, .int .i64 x.p, .int .i64 x.h, .int .i64 x.l, .int .i64 x.ro, .int .i64 x.wa, .bool x.op] 47) := ⟨_, rfl⟩
  have RN : R ≠ N := by have := Q.lt; omega
  have N_ : PBox y2 N x := by rw [hx, hq]; exact PBox.new y1 _ x
  have kq : Below y1.heap.size y1 y2 := by rw [hx]; exact (Below.refl _ _).alloc (Nat.le_refl _) _
  have DD := DD.later kq
  have Q := Q.below kq Q.lt
  clear kq
  go_wp2_with fail
  go_at_call 56
  rw [← hx, ← hq]
  clear hx hq
  refine (drawBelow (DD.src hs) 12 (by omega) (by omega)).mono ?_
  rintro e y3 ⟨k, rfl, k0, k1, sq, gq⟩
  have DD := DD.step sq gq
  have Q := Q.grown gq Rc
  have N_ := N_.grown gq Nc
  clear sq gq
  by_cases hk0 : k = 0
  · subst hk0
    have N' := N_
    obtain ⟨⟨n0, n1, n2, n3, n4, n5, n6, n7, n8, n9, n10⟩, nf⟩ := N_
    go_upto_region 15 with fail
    clear n0 n1 n2 n3 n4 n5 n6 n7 n8 n9 n10 nf
    have N_ := N'
    clear N'
    obtain ⟨y4, hx⟩ : ∃ y_, y_ = (y3.setCell ⟨N, 0, none⟩ (.bool (!x.up))) := ⟨_, rfl⟩
    have E_ := (N_.set0 (!x.up))
    have D_ : DV w cb ad len cap y4 := by rw [hx]; exact (DD.set Nw hcb _)
    replace Q : PBox y4 R ⟨false, false, 0, 0, 0, 0, 0, 0, 0, 0, false⟩ := by rw [hx]; exact (Q.other (by omega))
    rw [← hx] at E_ ⊢
    clear hx DD
    clear N_
    have DD := D_
    have N_ := E_
    clear D_ E_
    obtain ⟨z, hz0⟩ : ∃ z : Pt, z = { x with up := (!x.up) } := ⟨_, rfl⟩
    replace N_ : PBox y4 N z := by rw [hz0]; exact N_
    clear hz0
    obtain ⟨n0, n1, n2, n3, n4, n5, n6, n7, n8, n9, n10⟩ := N_.at_
    have Q' := Q
    obtain ⟨⟨q0, q1, q2, q3, q4, q5, q6, q7, q8, q9, q10⟩, qf⟩ := Q
    go_wp2
    obtain ⟨yz, hz⟩ : ∃ y, y = (((((((((((y4.setCell ⟨R, 0, none⟩ (.bool z.up)).setCell ⟨R, 1, none⟩ (.bool z.has)).setCell ⟨R, 2, none⟩ (.int .i64 z.r)).setCell ⟨R, 3, none⟩ (.int .i64 z.c)).setCell ⟨R, 4, none⟩ (.int .i64 z.b)).setCell ⟨R, 5, none⟩ (.int .i64 z.p)).setCell ⟨R, 6, none⟩ (.int .i64 z.h)).setCell ⟨R, 7, none⟩ (.int .i64 z.l)).setCell ⟨R, 8, none⟩ (.int .i64 z.ro)).setCell ⟨R, 9, none⟩ (.int .i64 z.wa)).setCell ⟨R, 10, none⟩ (.bool z.op)) := ⟨_, rfl⟩
    have DZ : DV w cb ad len cap yz := by rw [hz]; exact DD.put z Rw hcb
    have Z_ : PBox yz R z := by rw [hz]; exact Q'.put z
    rw [← hz]
    clear hz Q' DD
    obtain ⟨e0, e1, e2, e3, e4, e5, e6, e7, e8, e9, e10⟩ := Z_.at_
    exact bodyPost_ret (v := .agg #[.bool z.up, .bool z.has, .int .i64 z.r, .int .i64 z.c, .int .i64 z.b, .int .i64 z.p, .int .i64 z.h, .int .i64 z.l, .int .i64 z.ro, .int .i64 z.wa, .bool z.op]) (by simp only [results, Tryz.results68]; simp [go_sem, e0, e1, e2, e3, e4, e5, e6, e7, e8, e9, e10]) rfl ⟨z, rfl, DZ.src hs, DZ.gr⟩
  have e0 : (k == 0) = false := by simp; omega
  by_cases hk1 : k = 1
  · subst hk1
    have hc2 : cb < y3.heap.size := DD.cur.lt
    go_wp2_with fail
    go_at_call 78
    refine (drawL6 y3 (DD.src hs) hc2).mono ?_
    rintro e y4 ⟨r, c, b, p, rfl, _, sq, gq⟩
    clear hc2
    have DD := DD.step sq gq
    have Q := Q.grown gq Rc
    have N_ := N_.grown gq Nc
    clear sq gq
    have N' := N_
    obtain ⟨⟨n0, n1, n2, n3, n4, n5, n6, n7, n8, n9, n10⟩, nf⟩ := N_
    go_upto_region 15 with fail
    clear n0 n1 n2 n3 n4 n5 n6 n7 n8 n9 n10 nf
    have N_ := N'
    clear N'
    obtain ⟨y5, hx⟩ : ∃ y_, y_ = ((((y4.setCell ⟨N, 2, none⟩ (.int .i64 r)).setCell ⟨N, 3, none⟩ (.int .i64 c)).setCell ⟨N, 4, none⟩ (.int .i64 b)).setCell ⟨N, 5, none⟩ (.int .i64 p)) := ⟨_, rfl⟩
    have E_ := ((((N_.set2 r).set3 c).set4 b).set5 p)
    have D_ : DV w cb ad len cap y5 := by rw [hx]; exact ((((DD.set Nw hcb _).set Nw hcb _).set Nw hcb _).set Nw hcb _)
    replace Q : PBox y5 R ⟨false, false, 0, 0, 0, 0, 0, 0, 0, 0, false⟩ := by rw [hx]; exact ((((Q.other (by omega)).other (by omega)).other (by omega)).other (by omega))
    rw [← hx] at E_ ⊢
    clear hx DD
    clear N_
    have DD := D_
    have N_ := E_
    clear D_ E_
    obtain ⟨z, hz0⟩ : ∃ z : Pt, z = { x with r := r, c := c, b := b, p := p } := ⟨_, rfl⟩
    replace N_ : PBox y5 N z := by rw [hz0]; exact N_
    clear hz0
    obtain ⟨n0, n1, n2, n3, n4, n5, n6, n7, n8, n9, n10⟩ := N_.at_
    have Q' := Q
    obtain ⟨⟨q0, q1, q2, q3, q4, q5, q6, q7, q8, q9, q10⟩, qf⟩ := Q
    go_wp2
    obtain ⟨yz, hz⟩ : ∃ y, y = (((((((((((y5.setCell ⟨R, 0, none⟩ (.bool z.up)).setCell ⟨R, 1, none⟩ (.bool z.has)).setCell ⟨R, 2, none⟩ (.int .i64 z.r)).setCell ⟨R, 3, none⟩ (.int .i64 z.c)).setCell ⟨R, 4, none⟩ (.int .i64 z.b)).setCell ⟨R, 5, none⟩ (.int .i64 z.p)).setCell ⟨R, 6, none⟩ (.int .i64 z.h)).setCell ⟨R, 7, none⟩ (.int .i64 z.l)).setCell ⟨R, 8, none⟩ (.int .i64 z.ro)).setCell ⟨R, 9, none⟩ (.int .i64 z.wa)).setCell ⟨R, 10, none⟩ (.bool z.op)) := ⟨_, rfl⟩
    have DZ : DV w cb ad len cap yz := by rw [hz]; exact DD.put z Rw hcb
    have Z_ : PBox yz R z := by rw [hz]; exact Q'.put z
    rw [← hz]
    clear hz Q' DD
    obtain ⟨e0, e1, e2, e3, e4, e5, e6, e7, e8, e9, e10⟩ := Z_.at_
    exact bodyPost_ret (v := .agg #[.bool z.up, .bool z.has, .int .i64 z.r, .int .i64 z.c, .int .i64 z.b, .int .i64 z.p, .int .i64 z.h, .int .i64 z.l, .int .i64 z.ro, .int .i64 z.wa, .bool z.op]) (by simp only [results, Tryz.results68]; simp [go_sem, e0, e1, e2, e3, e4, e5, e6, e7, e8, e9, e10]) rfl ⟨z, rfl, DZ.src hs, DZ.gr⟩
  have e1 : (k == 1) = false := by simp; omega
  by_cases hk2 : k = 2
  · subst hk2
    obtain ⟨B, hBe⟩ : ∃ B, B = y3.heap.size := ⟨_, rfl⟩
    have hBc : B ≠ cb := by have := DD.cur.lt; omega
    obtain ⟨y4, hx⟩ : ∃ y_, y_ = y3.alloc (Obj.cells #[.int .i64 0, .int .i64 1, .int .i64 3, .int .i64 4] 3) := ⟨_, rfl⟩
    have hg : ∀ i, i < 4 → ∃ y, y4.cell? ⟨B, i, none⟩ = some (.int .i64 y) ∧ (-1 ≤ y ∧ y ≤ 100) := by
      intro i hi
      rw [hx, hBe]
      obtain rfl | rfl | rfl | rfl : i = 0 ∨ i = 1 ∨ i = 2 ∨ i = 3 := by omega
      · exact ⟨_, lit_at y3 _ _ 0 rfl, by omega⟩
      · exact ⟨_, lit_at y3 _ _ 1 rfl, by omega⟩
      · exact ⟨_, lit_at y3 _ _ 2 rfl, by omega⟩
      · exact ⟨_, lit_at y3 _ _ 3 rfl, by omega⟩
    have kq : Below y3.heap.size y3 y4 := by rw [hx]; exact (Below.refl _ _).alloc (Nat.le_refl _) _
    have DD := DD.later kq
    have Q := Q.below kq Q.lt
    have N_ := N_.below kq N_.lt
    clear kq
    go_wp2_with fail
    go_at_call 47
    rw [← hx, ← hBe]
    clear hx hBe
    refine (pickIntP (DD.src hs) (fun y => -1 ≤ y ∧ y ≤ 100) B 4 4 hBc (by omega) (by omega) hg).mono ?_
    rintro e y5 ⟨v, rfl, vr, sq, gq⟩
    clear hg hBc
    have DD := DD.step sq gq
    have Q := Q.grown gq Rc
    have N_ := N_.grown gq Nc
    clear sq gq
    have N' := N_
    obtain ⟨⟨n0, n1, n2, n3, n4, n5, n6, n7, n8, n9, n10⟩, nf⟩ := N_
    go_upto_region 15 with fail
    clear n0 n1 n2 n3 n4 n5 n6 n7 n8 n9 n10 nf
    have N_ := N'
    clear N'
    obtain ⟨y6, hx⟩ : ∃ y_, y_ = (y5.setCell ⟨N, 7, none⟩ (.int .i64 v)) := ⟨_, rfl⟩
    have E_ := (N_.set7 v)
    have D_ : DV w cb ad len cap y6 := by rw [hx]; exact (DD.set Nw hcb _)
    replace Q : PBox y6 R ⟨false, false, 0, 0, 0, 0, 0, 0, 0, 0, false⟩ := by rw [hx]; exact (Q.other (by omega))
    rw [← hx] at E_ ⊢
    clear hx DD
    clear N_
    have DD := D_
    have N_ := E_
    clear D_ E_
    obtain ⟨z, hz0⟩ : ∃ z : Pt, z = { x with l := v } := ⟨_, rfl⟩
    replace N_ : PBox y6 N z := by rw [hz0]; exact N_
    clear hz0
    obtain ⟨n0, n1, n2, n3, n4, n5, n6, n7, n8, n9, n10⟩ := N_.at_
    have Q' := Q
    obtain ⟨⟨q0, q1, q2, q3, q4, q5, q6, q7, q8, q9, q10⟩, qf⟩ := Q
    go_wp2
    obtain ⟨yz, hz⟩ : ∃ y, y = (((((((((((y6.setCell ⟨R, 0, none⟩ (.bool z.up)).setCell ⟨R, 1, none⟩ (.bool z.has)).setCell ⟨R, 2, none⟩ (.int .i64 z.r)).setCell ⟨R, 3, none⟩ (.int .i64 z.c)).setCell ⟨R, 4, none⟩ (.int .i64 z.b)).setCell ⟨R, 5, none⟩ (.int .i64 z.p)).setCell ⟨R, 6, none⟩ (.int .i64 z.h)).setCell ⟨R, 7, none⟩ (.int .i64 z.l)).setCell ⟨R, 8, none⟩ (.int .i64 z.ro)).setCell ⟨R, 9, none⟩ (.int .i64 z.wa)).setCell ⟨R, 10, none⟩ (.bool z.op)) := ⟨_, rfl⟩
    have DZ : DV w cb ad len cap yz := by rw [hz]; exact DD.put z Rw hcb
    have Z_ : PBox yz R z := by rw [hz]; exact Q'.put z
    rw [← hz]
    clear hz Q' DD
    obtain ⟨e0, e1, e2, e3, e4, e5, e6, e7, e8, e9, e10⟩ := Z_.at_
    exact bodyPost_ret (v := .agg #[.bool z.up, .bool z.has, .int .i64 z.r, .int .i64 z.c, .int .i64 z.b, .int .i64 z.p, .int .i64 z.h, .int .i64 z.l, .int .i64 z.ro, .int .i64 z.wa, .bool z.op]) (by simp only [results, Tryz.results68]; simp [go_sem, e0, e1, e2, e3, e4, e5, e6, e7, e8, e9, e10]) rfl ⟨z, rfl, DZ.src hs, DZ.gr⟩
  have e2 : (k == 2) = false := by simp; omega
  by_cases hk3 : k = 3
  · subst hk3
    go_wp2_with fail
    go_at_call 56
    refine (drawBelow (DD.src hs) 6 (by omega) (by omega)).mono ?_
    rintro e y4 ⟨u, rfl, ua, ub, sq, gq⟩
    have DD := DD.step sq gq
    have Q := Q.grown gq Rc
    have N_ := N_.grown gq Nc
    clear sq gq
    have hw : IntKind.i64.wrap (u - 1) = u - 1 := by rw [IntKind.wrap_i64]; omega
    have N' := N_
    obtain ⟨⟨n0, n1, n2, n3, n4, n5, n6, n7, n8, n9, n10⟩, nf⟩ := N_
    go_upto_region 15 with fail
    clear n0 n1 n2 n3 n4 n5 n6 n7 n8 n9 n10 nf
    have N_ := N'
    clear N'
    obtain ⟨y5, hx⟩ : ∃ y_, y_ = (y4.setCell ⟨N, 8, none⟩ (.int .i64 (u - 1))) := ⟨_, rfl⟩
    have E_ := (N_.set8 (u - 1))
    have D_ : DV w cb ad len cap y5 := by rw [hx]; exact (DD.set Nw hcb _)
    replace Q : PBox y5 R ⟨false, false, 0, 0, 0, 0, 0, 0, 0, 0, false⟩ := by rw [hx]; exact (Q.other (by omega))
    rw [← hx] at E_ ⊢
    clear hx DD
    clear N_
    have DD := D_
    have N_ := E_
    clear D_ E_
    obtain ⟨z, hz0⟩ : ∃ z : Pt, z = { x with ro := (u - 1) } := ⟨_, rfl⟩
    replace N_ : PBox y5 N z := by rw [hz0]; exact N_
    clear hz0
    obtain ⟨n0, n1, n2, n3, n4, n5, n6, n7, n8, n9, n10⟩ := N_.at_
    have Q' := Q
    obtain ⟨⟨q0, q1, q2, q3, q4, q5, q6, q7, q8, q9, q10⟩, qf⟩ := Q
    go_wp2
    obtain ⟨yz, hz⟩ : ∃ y, y = (((((((((((y5.setCell ⟨R, 0, none⟩ (.bool z.up)).setCell ⟨R, 1, none⟩ (.bool z.has)).setCell ⟨R, 2, none⟩ (.int .i64 z.r)).setCell ⟨R, 3, none⟩ (.int .i64 z.c)).setCell ⟨R, 4, none⟩ (.int .i64 z.b)).setCell ⟨R, 5, none⟩ (.int .i64 z.p)).setCell ⟨R, 6, none⟩ (.int .i64 z.h)).setCell ⟨R, 7, none⟩ (.int .i64 z.l)).setCell ⟨R, 8, none⟩ (.int .i64 z.ro)).setCell ⟨R, 9, none⟩ (.int .i64 z.wa)).setCell ⟨R, 10, none⟩ (.bool z.op)) := ⟨_, rfl⟩
    have DZ : DV w cb ad len cap yz := by rw [hz]; exact DD.put z Rw hcb
    have Z_ : PBox yz R z := by rw [hz]; exact Q'.put z
    rw [← hz]
    clear hz Q' DD
    obtain ⟨e0, e1, e2, e3, e4, e5, e6, e7, e8, e9, e10⟩ := Z_.at_
    exact bodyPost_ret (v := .agg #[.bool z.up, .bool z.has, .int .i64 z.r, .int .i64 z.c, .int .i64 z.b, .int .i64 z.p, .int .i64 z.h, .int .i64 z.l, .int .i64 z.ro, .int .i64 z.wa, .bool z.op]) (by simp only [results, Tryz.results68]; simp [go_sem, e0, e1, e2, e3, e4, e5, e6, e7, e8, e9, e10]) rfl ⟨z, rfl, DZ.src hs, DZ.gr⟩
  have e3 : (k == 3) = false := by simp; omega
  by_cases hk4 : k = 4
  · subst hk4
    have N' := N_
    obtain ⟨⟨n0, n1, n2, n3, n4, n5, n6, n7, n8, n9, n10⟩, nf⟩ := N_
    go_upto_region 15 with fail
    clear n0 n1 n2 n3 n4 n5 n6 n7 n8 n9 n10 nf
    have N_ := N'
    clear N'
    obtain ⟨y4, hx⟩ : ∃ y_, y_ = (y3.setCell ⟨N, 10, none⟩ (.bool (!x.op))) := ⟨_, rfl⟩
    have E_ := (N_.set10 (!x.op))
    have D_ : DV w cb ad len cap y4 := by rw [hx]; exact (DD.set Nw hcb _)
    replace Q : PBox y4 R ⟨false, false, 0, 0, 0, 0, 0, 0, 0, 0, false⟩ := by rw [hx]; exact (Q.other (by omega))
    rw [← hx] at E_ ⊢
    clear hx DD
    clear N_
    have DD := D_
    have N_ := E_
    clear D_ E_
    obtain ⟨z, hz0⟩ : ∃ z : Pt, z = { x with op := (!x.op) } := ⟨_, rfl⟩
    replace N_ : PBox y4 N z := by rw [hz0]; exact N_
    clear hz0
    obtain ⟨n0, n1, n2, n3, n4, n5, n6, n7, n8, n9, n10⟩ := N_.at_
    have Q' := Q
    obtain ⟨⟨q0, q1, q2, q3, q4, q5, q6, q7, q8, q9, q10⟩, qf⟩ := Q
    go_wp2
    obtain ⟨yz, hz⟩ : ∃ y, y = (((((((((((y4.setCell ⟨R, 0, none⟩ (.bool z.up)).setCell ⟨R, 1, none⟩ (.bool z.has)).setCell ⟨R, 2, none⟩ (.int .i64 z.r)).setCell ⟨R, 3, none⟩ (.int .i64 z.c)).setCell ⟨R, 4, none⟩ (.int .i64 z.b)).setCell ⟨R, 5, none⟩ (.int .i64 z.p)).setCell ⟨R, 6, none⟩ (.int .i64 z.h)).setCell ⟨R, 7, none⟩ (.int .i64 z.l)).setCell ⟨R, 8, none⟩ (.int .i64 z.ro)).setCell ⟨R, 9, none⟩ (.int .i64 z.wa)).setCell ⟨R, 10, none⟩ (.bool z.op)) := ⟨_, rfl⟩
    have DZ : DV w cb ad len cap yz := by rw [hz]; exact DD.put z Rw hcb
    have Z_ : PBox yz R z := by rw [hz]; exact Q'.put z
    rw [← hz]
    clear hz Q' DD
    obtain ⟨e0, e1, e2, e3, e4, e5, e6, e7, e8, e9, e10⟩ := Z_.at_
    exact bodyPost_ret (v := .agg #[.bool z.up, .bool z.has, .int .i64 z.r, .int .i64 z.c, .int .i64 z.b, .int .i64 z.p, .int .i64 z.h, .int .i64 z.l, .int .i64 z.ro, .int .i64 z.wa, .bool z.op]) (by simp only [results, Tryz.results68]; simp [go_sem, e0, e1, e2, e3, e4, e5, e6, e7, e8, e9, e10]) rfl ⟨z, rfl, DZ.src hs, DZ.gr⟩
  have e4 : (k == 4) = false := by simp; omega
  by_cases hk5 : k = 5
  · subst hk5
    obtain ⟨B, hBe⟩ : ∃ B, B = y3.heap.size := ⟨_, rfl⟩
    have hBc : B ≠ cb := by have := DD.cur.lt; omega
    obtain ⟨y4, hx⟩ : ∃ y_, y_ = y3.alloc (Obj.cells #[.int .i64 (-1), .int .i64 4, .int .i64 5] 3) := ⟨_, rfl⟩
    have hg : ∀ i, i < 3 → ∃ y, y4.cell? ⟨B, i, none⟩ = some (.int .i64 y) ∧ (-1 ≤ y ∧ y ≤ 100) := by
      intro i hi
      rw [hx, hBe]
      obtain rfl | rfl | rfl : i = 0 ∨ i = 1 ∨ i = 2 := by omega
      · exact ⟨_, lit_at y3 _ _ 0 rfl, by omega⟩
      · exact ⟨_, lit_at y3 _ _ 1 rfl, by omega⟩
      · exact ⟨_, lit_at y3 _ _ 2 rfl, by omega⟩
    have kq : Below y3.heap.size y3 y4 := by rw [hx]; exact (Below.refl _ _).alloc (Nat.le_refl _) _
    have DD := DD.later kq
    have Q := Q.below kq Q.lt
    have N_ := N_.below kq N_.lt
    clear kq
    go_wp2_with fail
    go_at_call 47
    rw [← hx, ← hBe]
    clear hx hBe
    refine (pickIntP (DD.src hs) (fun y => -1 ≤ y ∧ y ≤ 100) B 3 3 hBc (by omega) (by omega) hg).mono ?_
    rintro e y5 ⟨v, rfl, vr, sq, gq⟩
    clear hg hBc
    have DD := DD.step sq gq
    have Q := Q.grown gq Rc
    have N_ := N_.grown gq Nc
    clear sq gq
    have N' := N_
    obtain ⟨⟨n0, n1, n2, n3, n4, n5, n6, n7, n8, n9, n10⟩, nf⟩ := N_
    go_upto_region 15 with fail
    clear n0 n1 n2 n3 n4 n5 n6 n7 n8 n9 n10 nf
    have N_ := N'
    clear N'
    obtain ⟨y6, hx⟩ : ∃ y_, y_ = (y5.setCell ⟨N, 9, none⟩ (.int .i64 v)) := ⟨_, rfl⟩
    have E_ := (N_.set9 v)
    have D_ : DV w cb ad len cap y6 := by rw [hx]; exact (DD.set Nw hcb _)
    replace Q : PBox y6 R ⟨false, false, 0, 0, 0, 0, 0, 0, 0, 0, false⟩ := by rw [hx]; exact (Q.other (by omega))
    rw [← hx] at E_ ⊢
    clear hx DD
    clear N_
    have DD := D_
    have N_ := E_
    clear D_ E_
    obtain ⟨z, hz0⟩ : ∃ z : Pt, z = { x with wa := v } := ⟨_, rfl⟩
    replace N_ : PBox y6 N z := by rw [hz0]; exact N_
    clear hz0
    obtain ⟨n0, n1, n2, n3, n4, n5, n6, n7, n8, n9, n10⟩ := N_.at_
    have Q' := Q
    obtain ⟨⟨q0, q1, q2, q3, q4, q5, q6, q7, q8, q9, q10⟩, qf⟩ := Q
    go_wp2
    obtain ⟨yz, hz⟩ : ∃ y, y = (((((((((((y6.setCell ⟨R, 0, none⟩ (.bool z.up)).setCell ⟨R, 1, none⟩ (.bool z.has)).setCell ⟨R, 2, none⟩ (.int .i64 z.r)).setCell ⟨R, 3, none⟩ (.int .i64 z.c)).setCell ⟨R, 4, none⟩ (.int .i64 z.b)).setCell ⟨R, 5, none⟩ (.int .i64 z.p)).setCell ⟨R, 6, none⟩ (.int .i64 z.h)).setCell ⟨R, 7, none⟩ (.int .i64 z.l)).setCell ⟨R, 8, none⟩ (.int .i64 z.ro)).setCell ⟨R, 9, none⟩ (.int .i64 z.wa)).setCell ⟨R, 10, none⟩ (.bool z.op)) := ⟨_, rfl⟩
    have DZ : DV w cb ad len cap yz := by rw [hz]; exact DD.put z Rw hcb
    have Z_ : PBox yz R z := by rw [hz]; exact Q'.put z
    rw [← hz]
    clear hz Q' DD
    obtain ⟨e0, e1, e2, e3, e4, e5, e6, e7, e8, e9, e10⟩ := Z_.at_
    exact bodyPost_ret (v := .agg #[.bool z.up, .bool z.has, .int .i64 z.r, .int .i64 z.c, .int .i64 z.b, .int .i64 z.p, .int .i64 z.h, .int .i64 z.l, .int .i64 z.ro, .int .i64 z.wa, .bool z.op]) (by simp only [results, Tryz.results68]; simp [go_sem, e0, e1, e2, e3, e4, e5, e6, e7, e8, e9, e10]) rfl ⟨z, rfl, DZ.src hs, DZ.gr⟩
  have e5 : (k == 5) = false := by simp; omega
  clear hk0 hk1 hk2 hk3 hk4 hk5
  obtain ⟨n0, n1, n2, n3, n4, n5, n6, n7, n8, n9, n10⟩ := N_.at_
  have Q' := Q
  obtain ⟨⟨q0, q1, q2, q3, q4, q5, q6, q7, q8, q9, q10⟩, qf⟩ := Q
  go_wp2
  obtain ⟨yz, hz⟩ : ∃ y, y = (((((((((((y3.setCell ⟨R, 0, none⟩ (.bool x.up)).setCell ⟨R, 1, none⟩ (.bool x.has)).setCell ⟨R, 2, none⟩ (.int .i64 x.r)).setCell ⟨R, 3, none⟩ (.int .i64 x.c)).setCell ⟨R, 4, none⟩ (.int .i64 x.b)).setCell ⟨R, 5, none⟩ (.int .i64 x.p)).setCell ⟨R, 6, none⟩ (.int .i64 x.h)).setCell ⟨R, 7, none⟩ (.int .i64 x.l)).setCell ⟨R, 8, none⟩ (.int .i64 x.ro)).setCell ⟨R, 9, none⟩ (.int .i64 x.wa)).setCell ⟨R, 10, none⟩ (.bool x.op)) := ⟨_, rfl⟩
  have DZ : DV w cb ad len cap yz := by rw [hz]; exact DD.put x Rw hcb
  have Z_ : PBox yz R x := by rw [hz]; exact Q'.put x
  rw [← hz]
  clear hz Q' DD
  obtain ⟨e0, e1, e2, e3, e4, e5, e6, e7, e8, e9, e10⟩ := Z_.at_
  exact bodyPost_ret (v := .agg #[.bool x.up, .bool x.has, .int .i64 x.r, .int .i64 x.c, .int .i64 x.b, .int .i64 x.p, .int .i64 x.h, .int .i64 x.l, .int .i64 x.ro, .int .i64 x.wa, .bool x.op]) (by simp only [results, Tryz.results68]; simp [go_sem, e0, e1, e2, e3, e4, e5, e6, e7, e8, e9, e10]) rfl ⟨x, rfl, DZ.src hs, DZ.gr⟩

end Go.Proofs.YthgcbihhdbpbdaaGreatDoor
