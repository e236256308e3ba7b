/- spec.InOf, walked: a link. -/
import Derived.Test.YthgcbihhdbpbdaaGreatDoorRows
import Derived.WalkKit
import Derived.ProofKit
import Derived.OpenShut
import Derived.ShutString
import Derived.ChangeOld
import Derived.Below
import Derived.Deep.QuietTactic
import Derived.BigQuiet
import Derived.WalkSmall
import Derived.Laws.OwnMore
import Derived.WalkSpells
import Derived.WalkLawsBesides
import Derived.Deep.Cut
import Derived.Test.YthgcbihhdbpbdaaGreatDoorM11
import Derived.Test.YthgcbihhdbpbdaaGreatDoorKL9
import Derived.Test.YthgcbihhdbpbdaaGreatDoorM1
namespace Go.Proofs.YthgcbihhdbpbdaaGreatDoor
open Go.ChangeShapes Go.WideShapes Go.ChangeAt Go.RowKit
open Go.ChangeMaps (open_string shut_string)
set_option linter.unusedVariables false
set_option maxRecDepth 100000

set_option maxHeartbeats 16000000 in
theorem inOfS3 (ad : Option Addr) (cap : Nat) (L : List Int) (a : Int) (w : World) (hv : View w ad L.length (fun i => L.getD i 0)) (hB : ∀ x, ad = some x → 0 < L.length → x.block < w.heap.size) (hl : L.length ≤ 1048576) (hcap : L.length ≤ cap) (hLbd : ∀ x ∈ L, 0 ≤ x ∧ x ≤ 255) (hk : (rdN L (a, true)).1 = 3) (ha0 : -9223372036854775808 ≤ a ∧ a ≤ 9223372036854775807) :
    Calls Tryz.prog 10 #[.slice ad L.length cap, .int .i64 a] w fun e w' => e = .returned (inOfV (inAt L a)) ∧ Below w.heap.size w w' := by
  have hbd := getD_bd hLbd
  obtain ⟨y0, hy⟩ : ∃ y, y = ((w.alloc (Obj.cells #[.int .i64 0, .int .i64 0, .int .i64 0, .int .i64 0, .int .i64 0, .int .i64 0, .int .i64 0, .bool false] 27)).alloc (Obj.cells #[.slice ad L.length cap, .int .i64 a, .bool true] 89)).alloc (Obj.cells #[.int .i64 0, .int .i64 0, .int .i64 0, .int .i64 0, .int .i64 0, .int .i64 0, .int .i64 0, .bool false] 27) := ⟨_, rfl⟩
  obtain ⟨q, hq⟩ : ∃ q, q = w.heap.size + 1 + 1 := ⟨_, rfl⟩
  obtain ⟨p, hp⟩ : ∃ p, p = w.heap.size + 1 := ⟨_, rfl⟩
  have Z0 : JBox y0 w.heap.size Ik.nil := by rw [hy]; refine ⟨?_, fun i => by simp [go_sem]⟩; constructor <;> simp [go_sem, Ik.nil]
  have A0 : L9At y0 p (.slice ad L.length cap) a true := by rw [hy, hp]; constructor <;> simp [go_sem]
  have X0 : JBox y0 q ⟨0, 0, 0, 0, 0, 0, 0, false⟩ := by rw [hy, hq]; refine ⟨?_, fun i => by simp [go_sem]⟩; constructor <;> simp [go_sem]
  have BW : Below w.heap.size w y0 := by rw [hy]; exact (((Below.refl _ _).alloc (Nat.le_refl _) _).alloc (by simp) _).alloc (by simp; omega) _
  have lp : w.heap.size < p := by omega
  have lq : p < q := by omega
  go_enter Tryz.func10, Tryz.ntmps10
  go_upto_region 3 with fail
  rw [← hy, ← hq, ← hp]
  clear hy hq hp
  obtain ⟨n1, a1, o1, h1⟩ : ∃ n' a' o', rdN L (a, true) = (n', (a', o')) := ⟨_, _, _, rfl⟩
  have b1 := rdN_bd (o := true) ha0 hl
  rw [h1] at b1
  have ha1 : -9223372036854775808 ≤ a1 ∧ a1 ≤ 9223372036854775807 := b1
  clear b1
  replace h1 : Hid _ := h1
  obtain ⟨c0, c1, c2, cf⟩ := A0
  have A0 : L9At y0 p (.slice ad L.length cap) a true := ⟨c0, c1, c2, cf⟩
  go_wp2_with fail
  go_at_call 50
  clear c0 c1 c2 cf
  refine (l9NumS p ad cap L a true y0 A0 (hv.carry (fun x h h2 => BW.block _ (hB x h h2))) (fun x h h2 => by have := hB x h h2; have := BW.size; omega) hl hbd ha0).mono ?_
  rintro e z1 ⟨rfl, A1, g1⟩
  rw [h1.out] at A1 ⊢
  dsimp only at A1 ⊢
  replace BW := BW.grown g1 BW.size (fun g' e => by simp at e; omega)
  have X1 := X0.keep (g1.block _ X0.lt (by simp; omega))
  have Z1 := Z0.keep (g1.block _ Z0.lt (by simp; omega))
  clear A0 X0 Z0 g1
  have X2 := X1
  obtain ⟨⟨e0, e1, e2, e3, e4, e5, e6, e7⟩, ef⟩ := X1
  have f1 := ef 0
  obtain ⟨y1, hy⟩ : ∃ y_, y_ = z1.setCell ⟨q, 0, none⟩ (.int .i64 n1) := ⟨_, rfl⟩
  have X0 : JBox y1 q ⟨n1, 0, 0, 0, 0, 0, 0, false⟩ := by rw [hy]; exact X2.set0 n1
  have Z0 : JBox y1 w.heap.size Ik.nil := by rw [hy]; exact Z1.other (by omega)
  have A0 : L9At y1 p (.slice ad L.length cap) a1 o1 := by rw [hy]; exact A1.keep (Below.heap_setCell _ _ _ _ (by show p ≠ q; omega))
  replace BW : Below w.heap.size w y1 := by rw [hy]; exact BW.setCell (p := ⟨q, 0, none⟩) (by show _ ≤ q; omega) _
  clear X2 Z1 A1
  go_upto_region 4 with fail
  rw [← hy]
  clear hy e0 e1 e2 e3 e4 e5 e6 e7 ef f1
  obtain ⟨n2, a2, o2, h2⟩ : ∃ n' a' o', rdN L (a1, o1) = (n', (a', o')) := ⟨_, _, _, rfl⟩
  have b2 := rdN_bd (o := o1) ha1 hl
  rw [h2] at b2
  have ha2 : -9223372036854775808 ≤ a2 ∧ a2 ≤ 9223372036854775807 := b2
  clear b2
  replace h2 : Hid _ := h2
  obtain ⟨c0, c1, c2, cf⟩ := A0
  have A0 : L9At y1 p (.slice ad L.length cap) a1 o1 := ⟨c0, c1, c2, cf⟩
  go_wp2_with fail
  go_at_call 50
  clear c0 c1 c2 cf
  refine (l9NumS p ad cap L a1 o1 y1 A0 (hv.carry (fun x h h2 => BW.block _ (hB x h h2))) (fun x h h2 => by have := hB x h h2; have := BW.size; omega) hl hbd ha1).mono ?_
  rintro e z2 ⟨rfl, A1, g1⟩
  rw [h2.out] at A1 ⊢
  dsimp only at A1 ⊢
  replace BW := BW.grown g1 BW.size (fun g' e => by simp at e; omega)
  have X1 := X0.keep (g1.block _ X0.lt (by simp; omega))
  have Z1 := Z0.keep (g1.block _ Z0.lt (by simp; omega))
  clear A0 X0 Z0 g1
  have X2 := X1
  obtain ⟨⟨e0, e1, e2, e3, e4, e5, e6, e7⟩, ef⟩ := X1
  have f1 := ef 1
  obtain ⟨y2, hy⟩ : ∃ y_, y_ = z2.setCell ⟨q, 1, none⟩ (.int .i64 n2) := ⟨_, rfl⟩
  have X0 : JBox y2 q ⟨n1, n2, 0, 0, 0, 0, 0, false⟩ := by rw [hy]; exact X2.set1 n2
  have Z0 : JBox y2 w.heap.size Ik.nil := by rw [hy]; exact Z1.other (by omega)
  have A0 : L9At y2 p (.slice ad L.length cap) a2 o2 := by rw [hy]; exact A1.keep (Below.heap_setCell _ _ _ _ (by show p ≠ q; omega))
  replace BW : Below w.heap.size w y2 := by rw [hy]; exact BW.setCell (p := ⟨q, 1, none⟩) (by show _ ≤ q; omega) _
  clear X2 Z1 A1
  go_upto_region 5 with fail
  rw [← hy]
  clear hy e0 e1 e2 e3 e4 e5 e6 e7 ef f1
  have hk1 := hk
  rw [h1.out] at hk1
  dsimp only at hk1
  subst hk1
  have cc := X0.at_
  obtain ⟨e0, e1, e2, e3, e4, e5, e6, e7⟩ := cc
  go_upto_region 13 with fail
  clear e0 e1 e2 e3 e4 e5 e6 e7
  obtain ⟨n3, a3, o3, h3⟩ : ∃ n' a' o', rdN L (a2, o2) = (n', (a', o')) := ⟨_, _, _, rfl⟩
  have b3 := rdN_bd (o := o2) ha2 hl
  rw [h3] at b3
  have ha3 : -9223372036854775808 ≤ a3 ∧ a3 ≤ 9223372036854775807 := b3
  clear b3
  replace h3 : Hid _ := h3
  obtain ⟨c0, c1, c2, cf⟩ := A0
  have A0 : L9At y2 p (.slice ad L.length cap) a2 o2 := ⟨c0, c1, c2, cf⟩
  go_wp2_with fail
  go_at_call 50
  clear c0 c1 c2 cf
  refine (l9NumS p ad cap L a2 o2 y2 A0 (hv.carry (fun x h h2 => BW.block _ (hB x h h2))) (fun x h h2 => by have := hB x h h2; have := BW.size; omega) hl hbd ha2).mono ?_
  rintro e z3 ⟨rfl, A1, g1⟩
  rw [h3.out] at A1 ⊢
  dsimp only at A1 ⊢
  replace BW := BW.grown g1 BW.size (fun g' e => by simp at e; omega)
  have X1 := X0.keep (g1.block _ X0.lt (by simp; omega))
  have Z1 := Z0.keep (g1.block _ Z0.lt (by simp; omega))
  clear A0 X0 Z0 g1
  have X2 := X1
  obtain ⟨⟨e0, e1, e2, e3, e4, e5, e6, e7⟩, ef⟩ := X1
  have f1 := ef 7
  obtain ⟨y3, hy⟩ : ∃ y_, y_ = z3.setCell ⟨q, 7, none⟩ (.bool (n3 == 1)) := ⟨_, rfl⟩
  have X0 : JBox y3 q ⟨3, n2, 0, 0, 0, 0, 0, (n3 == 1)⟩ := by rw [hy]; exact X2.set7 (n3 == 1)
  have Z0 : JBox y3 w.heap.size Ik.nil := by rw [hy]; exact Z1.other (by omega)
  have A0 : L9At y3 p (.slice ad L.length cap) a3 o3 := by rw [hy]; exact A1.keep (Below.heap_setCell _ _ _ _ (by show p ≠ q; omega))
  replace BW : Below w.heap.size w y3 := by rw [hy]; exact BW.setCell (p := ⟨q, 7, none⟩) (by show _ ≤ q; omega) _
  clear X2 Z1 A1
  go_upto_region 14 with fail
  rw [← hy]
  clear hy e0 e1 e2 e3 e4 e5 e6 e7 ef f1
  obtain ⟨xx, hxx⟩ : ∃ xx : Ik, xx = ⟨3, n2, 0, 0, 0, 0, 0, (n3 == 1)⟩ := ⟨_, rfl⟩
  rw [← hxx] at X0
  have hrun : runN L a = (xx, o3) := by rw [hxx]; unfold runN; simp only [h1.out, h2.out, h3.out]; rfl
  have hin := run_inAt L a
  rw [hrun] at hin
  dsimp only at hin
  replace hrun : Hid _ := hrun
  have cc := X0.at_
  obtain ⟨e0, e1, e2, e3, e4, e5, e6, e7⟩ := cc
  obtain ⟨WB, hWB⟩ : ∃ WB, inBy xx = WB := ⟨_, rfl⟩
  have hWl := inBy_len xx
  have hWbd := inBy_bd xx
  rw [hWB] at hin hWl hWbd
  replace hWB : Hid _ := hWB
  go_wp2_with fail
  go_at_call 18
  rw [show (.agg #[(.int .i64 3 : Value), (.int .i64 n2 : Value), (.int .i64 0 : Value), (.int .i64 0 : Value), (.int .i64 0 : Value), (.int .i64 0 : Value), (.int .i64 0 : Value), (.bool (n3 == 1) : Value)] : Value) = .agg #[.int .i64 xx.k, .int .i64 xx.q, .int .i64 xx.r, .int .i64 xx.c, .int .i64 xx.b, .int .i64 xx.p, .int .i64 xx.h, .bool xx.up] from by rw [hxx]]
  clear e0 e1 e2 e3 e4 e5 e6 e7 hxx
  refine (inBSo xx y3).mono ?_
  rintro e y ⟨aW, cW, rfl, OW, kq⟩
  rw [hWB.out] at OW ⊢
  have A0 := A0.below kq A0.lt
  have X0 := X0.below kq X0.lt
  have Z0 := Z0.below kq Z0.lt
  replace BW := BW.trans (kq.mono BW.size)
  clear kq
  have vB := hv.carry (w' := y) (fun x h h2 => BW.block _ (hB x h h2))
  by_cases hO : o3 = false
  rotate_left
  · have hO : o3 = true := by simpa using hO
    subst hO
    have ha : 0 ≤ a := by
      by_cases h : 0 ≤ a
      · exact h
      · have e := runN_out (L := L) (a := a) (by omega)
        rw [hrun.out] at e
        cases e
    obtain ⟨aN, rfl⟩ : ∃ aN : Nat, a = aN := ⟨a.toNat, by omega⟩
    by_cases hw0 : WB.length = 0
    · have hWz : ((WB.length : Int) == 0) = true := by simp [hw0]
      have hW0 : WB.length = 0 := hw0
      rw [if_neg (by rw [List.eq_nil_of_length_eq_zero hw0]; simp)] at hin
      replace hin : Hid _ := hin
      go_upto_region 15 with fail
      refine wp_region_held (S := fun Y => Below y.heap.size y Y) (by kernel_rfl) ?_
      change wpAnyH _ _ _ _ _ _ _ _ (World.drew _)
      have hb0 : Below y.heap.size y y.drew := (Below.refl _ _).drew
      obtain ⟨u0, hy0⟩ : ∃ y_, y_ = y.drew := ⟨_, rfl⟩
      rw [← hy0] at hb0 ⊢
      clear hy0
      refine takeW 0 52 (.pointer (some ⟨p, 0, none⟩)) rfl rfl (by kernel_rfl) (by kernel_rfl) (by kernel_rfl) (fun _ _ _ h => h) (by kernel_rfl) (by (intro w hSw; go_simp)) (by assumption) ?_
      simp only [List.set_cons_zero, List.set_cons_succ]
      refine takeW 1 53 (.pointer (some ⟨p, 0, none⟩)) rfl rfl (by kernel_rfl) (by kernel_rfl) (by kernel_rfl) (fun _ _ _ h => h) (by kernel_rfl) (by (intro w hSw; go_simp)) (by assumption) ?_
      simp only [List.set_cons_zero, List.set_cons_succ]
      refine takeW 2 54 (.pointer (some ⟨p, 2, none⟩)) rfl rfl (by kernel_rfl) (by kernel_rfl) (by kernel_rfl) (fun _ _ _ h => h) (by kernel_rfl) (by (intro w hSw; go_simp)) (by assumption) ?_
      simp only [List.set_cons_zero, List.set_cons_succ]
      refine takeW 3 55 (.bool true) rfl rfl (by kernel_rfl) (by kernel_rfl) (by kernel_rfl) (fun _ _ _ h => h) (by kernel_rfl) (by (intro Y hSw; obtain ⟨X0, X1, X2, X3⟩ := A0.below hSw A0.lt; go_simp)) (by assumption) ?_
      simp only [List.set_cons_zero, List.set_cons_succ]
      refine takeW 4 56 (.bool false) rfl rfl (by kernel_rfl) (by kernel_rfl) (by kernel_rfl) (fun _ _ _ h => h) (by kernel_rfl) (by (intro w hSw; go_simp)) (by assumption) ?_
      simp only [List.set_cons_zero, List.set_cons_succ]
      refine takeW 5 57 (.bool false) rfl rfl (by kernel_rfl) (by kernel_rfl) (by kernel_rfl) (fun _ _ _ h => h) (by kernel_rfl) (by (intro w hSw; go_simp)) (by assumption) ?_
      simp only [List.set_cons_zero, List.set_cons_succ]
      refine takeW 6 58 (.slice aW WB.length cW) rfl rfl (by kernel_rfl) (by kernel_rfl) (by kernel_rfl) (fun _ _ _ h => h) (by kernel_rfl) (by (intro w hSw; go_simp)) (by assumption) ?_
      simp only [List.set_cons_zero, List.set_cons_succ]
      refine takeW 7 59 (.int .i64 (WB.length : Int)) rfl rfl (by kernel_rfl) (by kernel_rfl) (by kernel_rfl) (fun _ _ _ h => h) (by kernel_rfl) (by (intro w hSw; go_simp)) (by assumption) ?_
      simp only [List.set_cons_zero, List.set_cons_succ]
      refine takeW 8 60 (.bool true) rfl rfl (by kernel_rfl) (by kernel_rfl) (by kernel_rfl) (fun _ _ _ h => h) (by kernel_rfl) (by (intro w hSw; go_simp)) (by assumption) ?_
      simp only [List.set_cons_zero, List.set_cons_succ]
      refine takeW 9 61 (.bool true) rfl rfl (by kernel_rfl) (by kernel_rfl) (by kernel_rfl) (fun _ _ _ h => h) (by kernel_rfl) (by (intro w hSw; go_simp)) (by assumption) ?_
      simp only [List.set_cons_zero, List.set_cons_succ]
      refine takeW 10 62 (.bool true) rfl rfl (by kernel_rfl) (by kernel_rfl) (by kernel_rfl) (fun _ _ _ h => h) (by kernel_rfl) (by (intro w hSw; go_simp)) (by assumption) ?_
      simp only [List.set_cons_zero, List.set_cons_succ]
      refine takeS 11 63 rfl rfl (by kernel_rfl) (by kernel_rfl) (by kernel_rfl) (fun _ _ _ h => h) (by kernel_rfl) (by assumption) ?_
      simp only [List.set_cons_zero, List.set_cons_succ]
      refine takeS 12 64 rfl rfl (by kernel_rfl) (by kernel_rfl) (by kernel_rfl) (fun _ _ _ h => h) (by kernel_rfl) (by assumption) ?_
      simp only [List.set_cons_zero, List.set_cons_succ]
      refine takeS 13 65 rfl rfl (by kernel_rfl) (by kernel_rfl) (by kernel_rfl) (fun _ _ _ h => h) (by kernel_rfl) (by assumption) ?_
      simp only [List.set_cons_zero, List.set_cons_succ]
      refine takeS 14 66 rfl rfl (by kernel_rfl) (by kernel_rfl) (by kernel_rfl) (fun _ _ _ h => h) (by kernel_rfl) (by assumption) ?_
      simp only [List.set_cons_zero, List.set_cons_succ]
      refine takeS 15 67 rfl rfl (by kernel_rfl) (by kernel_rfl) (by kernel_rfl) (fun _ _ _ h => h) (by kernel_rfl) (by assumption) ?_
      simp only [List.set_cons_zero, List.set_cons_succ]
      refine takeS 16 68 rfl rfl (by kernel_rfl) (by kernel_rfl) (by kernel_rfl) (fun _ _ _ h => h) (by kernel_rfl) (by assumption) ?_
      simp only [List.set_cons_zero, List.set_cons_succ]
      refine takeS 17 69 rfl rfl (by kernel_rfl) (by kernel_rfl) (by kernel_rfl) (fun _ _ _ h => h) (by kernel_rfl) (by assumption) ?_
      simp only [List.set_cons_zero, List.set_cons_succ]
      refine takeW 18 70 (.bool true) rfl rfl (by kernel_rfl) (by kernel_rfl) (by kernel_rfl) (fun _ _ _ h => h) (by kernel_rfl) (by (intro w hSw; go_simp)) (by assumption) ?_
      simp only [List.set_cons_zero, List.set_cons_succ]
      refine takeW 19 71 (.bool true) rfl rfl (by kernel_rfl) (by kernel_rfl) (by kernel_rfl) (fun _ _ _ h => h) (by kernel_rfl) (by (intro w hSw; go_simp)) (by assumption) ?_
      simp only [List.set_cons_zero, List.set_cons_succ]
      refine takeS 20 72 rfl rfl (by kernel_rfl) (by kernel_rfl) (by kernel_rfl) (fun _ _ _ h => h) (by kernel_rfl) (by assumption) ?_
      simp only [List.set_cons_zero, List.set_cons_succ]
      refine takeS 21 73 rfl rfl (by kernel_rfl) (by kernel_rfl) (by kernel_rfl) (fun _ _ _ h => h) (by kernel_rfl) (by assumption) ?_
      simp only [List.set_cons_zero, List.set_cons_succ]
      refine takeS 22 74 rfl rfl (by kernel_rfl) (by kernel_rfl) (by kernel_rfl) (fun _ _ _ h => h) (by kernel_rfl) (by assumption) ?_
      simp only [List.set_cons_zero, List.set_cons_succ]
      refine takeS 23 75 rfl rfl (by kernel_rfl) (by kernel_rfl) (by kernel_rfl) (fun _ _ _ h => h) (by kernel_rfl) (by assumption) ?_
      simp only [List.set_cons_zero, List.set_cons_succ]
      refine takeS 24 76 rfl rfl (by kernel_rfl) (by kernel_rfl) (by kernel_rfl) (fun _ _ _ h => h) (by kernel_rfl) (by assumption) ?_
      simp only [List.set_cons_zero, List.set_cons_succ]
      refine takeS 25 77 rfl rfl (by kernel_rfl) (by kernel_rfl) (by kernel_rfl) (fun _ _ _ h => h) (by kernel_rfl) (by assumption) ?_
      simp only [List.set_cons_zero, List.set_cons_succ]
      refine takeS 26 78 rfl rfl (by kernel_rfl) (by kernel_rfl) (by kernel_rfl) (fun _ _ _ h => h) (by kernel_rfl) (by assumption) ?_
      simp only [List.set_cons_zero, List.set_cons_succ]
      refine takeS 27 79 rfl rfl (by kernel_rfl) (by kernel_rfl) (by kernel_rfl) (fun _ _ _ h => h) (by kernel_rfl) (by assumption) ?_
      simp only [List.set_cons_zero, List.set_cons_succ]
      refine takeS 28 80 rfl rfl (by kernel_rfl) (by kernel_rfl) (by kernel_rfl) (fun _ _ _ h => h) (by kernel_rfl) (by assumption) ?_
      simp only [List.set_cons_zero, List.set_cons_succ]
      refine takeS 29 81 rfl rfl (by kernel_rfl) (by kernel_rfl) (by kernel_rfl) (fun _ _ _ h => h) (by kernel_rfl) (by assumption) ?_
      simp only [List.set_cons_zero, List.set_cons_succ]
      refine takeS 30 82 rfl rfl (by kernel_rfl) (by kernel_rfl) (by kernel_rfl) (fun _ _ _ h => h) (by kernel_rfl) (by assumption) ?_
      simp only [List.set_cons_zero, List.set_cons_succ]
      refine takeW 31 83 (.bool true) rfl rfl (by kernel_rfl) (by kernel_rfl) (by kernel_rfl) (fun _ _ _ h => h) (by kernel_rfl) (by (intro w hSw; go_simp)) (by assumption) ?_
      simp only [List.set_cons_zero, List.set_cons_succ]
      refine wpAnyH_done (by kernel_rfl) ?_ _
      replace BW := BW.trans (hb0.mono BW.size)
      have X1 := X0.below hb0 X0.lt
      have Z1 := Z0.below hb0 Z0.lt
      obtain ⟨⟨e0, e1, e2, e3, e4, e5, e6, e7⟩, ef⟩ := Z1
      have f0 := ef 0
      have f1 := ef 1
      have f2 := ef 2
      have f3 := ef 3
      have f4 := ef 4
      have f5 := ef 5
      have f6 := ef 6
      have f7 := ef 7
      go_wp2
      refine bodyPost_ret (v := .tuple #[.agg #[.int .i64 0, .int .i64 0, .int .i64 0, .int .i64 0, .int .i64 0, .int .i64 0, .int .i64 0, .bool false], .int .i64 0, .bool false]) (by simp [results, Tryz.results10, go_sem, *]) rfl ⟨?_, ?_⟩
      · rw [hin]; rfl
      · exact below_all BW (Nat.le_refl _) Ik.nil
    by_cases hgtl : (WB.length : Int) ≤ (L.length : Int) - (aN : Int)
    rotate_left
    · have hWz : ((WB.length : Int) == 0) = false := by rw [beq_eq_false_iff_ne]; omega
      have hwr1 : IntKind.i64.wrap ((L.length : Int) - (aN : Int)) = (L.length : Int) - (aN : Int) := by rw [IntKind.wrap_i64]; omega
      rw [if_neg (by rintro ⟨_, _, c, _⟩; omega)] at hin
      replace hin : Hid _ := hin
      have hgt : decide ((L.length : Int) - (aN : Int) < (WB.length : Int)) = true := by simp; omega
      go_upto_region 15 with fail
      refine wp_region_held (S := fun Y => Below y.heap.size y Y) (by kernel_rfl) ?_
      change wpAnyH _ _ _ _ _ _ _ _ (World.drew _)
      have hb0 : Below y.heap.size y y.drew := (Below.refl _ _).drew
      obtain ⟨u0, hy0⟩ : ∃ y_, y_ = y.drew := ⟨_, rfl⟩
      rw [← hy0] at hb0 ⊢
      clear hy0
      refine takeW 0 52 (.pointer (some ⟨p, 0, none⟩)) rfl rfl (by kernel_rfl) (by kernel_rfl) (by kernel_rfl) (fun _ _ _ h => h) (by kernel_rfl) (by (intro w hSw; go_simp)) (by assumption) ?_
      simp only [List.set_cons_zero, List.set_cons_succ]
      refine takeW 1 53 (.pointer (some ⟨p, 0, none⟩)) rfl rfl (by kernel_rfl) (by kernel_rfl) (by kernel_rfl) (fun _ _ _ h => h) (by kernel_rfl) (by (intro w hSw; go_simp)) (by assumption) ?_
      simp only [List.set_cons_zero, List.set_cons_succ]
      refine takeW 2 54 (.pointer (some ⟨p, 2, none⟩)) rfl rfl (by kernel_rfl) (by kernel_rfl) (by kernel_rfl) (fun _ _ _ h => h) (by kernel_rfl) (by (intro w hSw; go_simp)) (by assumption) ?_
      simp only [List.set_cons_zero, List.set_cons_succ]
      refine takeW 3 55 (.bool true) rfl rfl (by kernel_rfl) (by kernel_rfl) (by kernel_rfl) (fun _ _ _ h => h) (by kernel_rfl) (by (intro Y hSw; obtain ⟨X0, X1, X2, X3⟩ := A0.below hSw A0.lt; go_simp)) (by assumption) ?_
      simp only [List.set_cons_zero, List.set_cons_succ]
      refine takeW 4 56 (.bool false) rfl rfl (by kernel_rfl) (by kernel_rfl) (by kernel_rfl) (fun _ _ _ h => h) (by kernel_rfl) (by (intro w hSw; go_simp)) (by assumption) ?_
      simp only [List.set_cons_zero, List.set_cons_succ]
      refine takeW 5 57 (.bool false) rfl rfl (by kernel_rfl) (by kernel_rfl) (by kernel_rfl) (fun _ _ _ h => h) (by kernel_rfl) (by (intro w hSw; go_simp)) (by assumption) ?_
      simp only [List.set_cons_zero, List.set_cons_succ]
      refine takeW 6 58 (.slice aW WB.length cW) rfl rfl (by kernel_rfl) (by kernel_rfl) (by kernel_rfl) (fun _ _ _ h => h) (by kernel_rfl) (by (intro w hSw; go_simp)) (by assumption) ?_
      simp only [List.set_cons_zero, List.set_cons_succ]
      refine takeW 7 59 (.int .i64 (WB.length : Int)) rfl rfl (by kernel_rfl) (by kernel_rfl) (by kernel_rfl) (fun _ _ _ h => h) (by kernel_rfl) (by (intro w hSw; go_simp)) (by assumption) ?_
      simp only [List.set_cons_zero, List.set_cons_succ]
      refine takeW 8 60 (.bool false) rfl rfl (by kernel_rfl) (by kernel_rfl) (by kernel_rfl) (fun _ _ _ h => h) (by kernel_rfl) (by (intro w hSw; go_simp)) (by assumption) ?_
      simp only [List.set_cons_zero, List.set_cons_succ]
      refine takeW 9 61 (.bool false) rfl rfl (by kernel_rfl) (by kernel_rfl) (by kernel_rfl) (fun _ _ _ h => h) (by kernel_rfl) (by (intro w hSw; go_simp)) (by assumption) ?_
      simp only [List.set_cons_zero, List.set_cons_succ]
      refine takeW 10 62 (.bool false) rfl rfl (by kernel_rfl) (by kernel_rfl) (by kernel_rfl) (fun _ _ _ h => h) (by kernel_rfl) (by (intro w hSw; go_simp)) (by assumption) ?_
      simp only [List.set_cons_zero, List.set_cons_succ]
      refine takeW 11 63 (.slice aW WB.length cW) rfl rfl (by kernel_rfl) (by kernel_rfl) (by kernel_rfl) (fun _ _ _ h => h) (by kernel_rfl) (by (intro w hSw; go_simp)) (by assumption) ?_
      simp only [List.set_cons_zero, List.set_cons_succ]
      refine takeW 12 64 (.int .i64 (WB.length : Int)) rfl rfl (by kernel_rfl) (by kernel_rfl) (by kernel_rfl) (fun _ _ _ h => h) (by kernel_rfl) (by (intro w hSw; go_simp)) (by assumption) ?_
      simp only [List.set_cons_zero, List.set_cons_succ]
      refine takeW 13 65 (.slice ad L.length cap) rfl rfl (by kernel_rfl) (by kernel_rfl) (by kernel_rfl) (fun _ _ _ h => h) (by kernel_rfl) (by (intro w hSw; go_simp)) (by assumption) ?_
      simp only [List.set_cons_zero, List.set_cons_succ]
      refine takeW 14 66 (.int .i64 (L.length : Int)) rfl rfl (by kernel_rfl) (by kernel_rfl) (by kernel_rfl) (fun _ _ _ h => h) (by kernel_rfl) (by (intro w hSw; go_simp)) (by assumption) ?_
      simp only [List.set_cons_zero, List.set_cons_succ]
      refine takeW 15 67 (.int .i64 (aN : Int)) rfl rfl (by kernel_rfl) (by kernel_rfl) (by kernel_rfl) (fun _ _ _ h => h) (by kernel_rfl) (by (intro w hSw; go_simp)) (by assumption) ?_
      simp only [List.set_cons_zero, List.set_cons_succ]
      refine takeW 16 68 (.int .i64 ((L.length : Int) - (aN : Int))) rfl rfl (by kernel_rfl) (by kernel_rfl) (by kernel_rfl) (fun _ _ _ h => h) (by kernel_rfl) (by (intro w hSw; go_simp; try omega)) (by assumption) ?_
      simp only [List.set_cons_zero, List.set_cons_succ]
      refine takeW 17 69 (.bool true) rfl rfl (by kernel_rfl) (by kernel_rfl) (by kernel_rfl) (fun _ _ _ h => h) (by kernel_rfl) (by (intro w hSw; go_simp; try omega)) (by assumption) ?_
      simp only [List.set_cons_zero, List.set_cons_succ]
      refine takeW 18 70 (.bool true) rfl rfl (by kernel_rfl) (by kernel_rfl) (by kernel_rfl) (fun _ _ _ h => h) (by kernel_rfl) (by (intro w hSw; go_simp)) (by assumption) ?_
      simp only [List.set_cons_zero, List.set_cons_succ]
      refine takeW 19 71 (.bool true) rfl rfl (by kernel_rfl) (by kernel_rfl) (by kernel_rfl) (fun _ _ _ h => h) (by kernel_rfl) (by (intro w hSw; go_simp)) (by assumption) ?_
      simp only [List.set_cons_zero, List.set_cons_succ]
      refine takeS 20 72 rfl rfl (by kernel_rfl) (by kernel_rfl) (by kernel_rfl) (fun _ _ _ h => h) (by kernel_rfl) (by assumption) ?_
      simp only [List.set_cons_zero, List.set_cons_succ]
      refine takeS 21 73 rfl rfl (by kernel_rfl) (by kernel_rfl) (by kernel_rfl) (fun _ _ _ h => h) (by kernel_rfl) (by assumption) ?_
      simp only [List.set_cons_zero, List.set_cons_succ]
      refine takeS 22 74 rfl rfl (by kernel_rfl) (by kernel_rfl) (by kernel_rfl) (fun _ _ _ h => h) (by kernel_rfl) (by assumption) ?_
      simp only [List.set_cons_zero, List.set_cons_succ]
      refine takeS 23 75 rfl rfl (by kernel_rfl) (by kernel_rfl) (by kernel_rfl) (fun _ _ _ h => h) (by kernel_rfl) (by assumption) ?_
      simp only [List.set_cons_zero, List.set_cons_succ]
      refine takeS 24 76 rfl rfl (by kernel_rfl) (by kernel_rfl) (by kernel_rfl) (fun _ _ _ h => h) (by kernel_rfl) (by assumption) ?_
      simp only [List.set_cons_zero, List.set_cons_succ]
      refine takeS 25 77 rfl rfl (by kernel_rfl) (by kernel_rfl) (by kernel_rfl) (fun _ _ _ h => h) (by kernel_rfl) (by assumption) ?_
      simp only [List.set_cons_zero, List.set_cons_succ]
      refine takeS 26 78 rfl rfl (by kernel_rfl) (by kernel_rfl) (by kernel_rfl) (fun _ _ _ h => h) (by kernel_rfl) (by assumption) ?_
      simp only [List.set_cons_zero, List.set_cons_succ]
      refine takeS 27 79 rfl rfl (by kernel_rfl) (by kernel_rfl) (by kernel_rfl) (fun _ _ _ h => h) (by kernel_rfl) (by assumption) ?_
      simp only [List.set_cons_zero, List.set_cons_succ]
      refine takeS 28 80 rfl rfl (by kernel_rfl) (by kernel_rfl) (by kernel_rfl) (fun _ _ _ h => h) (by kernel_rfl) (by assumption) ?_
      simp only [List.set_cons_zero, List.set_cons_succ]
      refine takeS 29 81 rfl rfl (by kernel_rfl) (by kernel_rfl) (by kernel_rfl) (fun _ _ _ h => h) (by kernel_rfl) (by assumption) ?_
      simp only [List.set_cons_zero, List.set_cons_succ]
      refine takeS 30 82 rfl rfl (by kernel_rfl) (by kernel_rfl) (by kernel_rfl) (fun _ _ _ h => h) (by kernel_rfl) (by assumption) ?_
      simp only [List.set_cons_zero, List.set_cons_succ]
      refine takeW 31 83 (.bool true) rfl rfl (by kernel_rfl) (by kernel_rfl) (by kernel_rfl) (fun _ _ _ h => h) (by kernel_rfl) (by (intro w hSw; go_simp)) (by assumption) ?_
      simp only [List.set_cons_zero, List.set_cons_succ]
      refine wpAnyH_done (by kernel_rfl) ?_ _
      replace BW := BW.trans (hb0.mono BW.size)
      have X1 := X0.below hb0 X0.lt
      have Z1 := Z0.below hb0 Z0.lt
      obtain ⟨⟨e0, e1, e2, e3, e4, e5, e6, e7⟩, ef⟩ := Z1
      have f0 := ef 0
      have f1 := ef 1
      have f2 := ef 2
      have f3 := ef 3
      have f4 := ef 4
      have f5 := ef 5
      have f6 := ef 6
      have f7 := ef 7
      go_wp2
      refine bodyPost_ret (v := .tuple #[.agg #[.int .i64 0, .int .i64 0, .int .i64 0, .int .i64 0, .int .i64 0, .int .i64 0, .int .i64 0, .bool false], .int .i64 0, .bool false]) (by simp [results, Tryz.results10, go_sem, *]) rfl ⟨?_, ?_⟩
      · rw [hin]; rfl
      · exact below_all BW (Nat.le_refl _) Ik.nil
    have hWz : ((WB.length : Int) == 0) = false := by rw [beq_eq_false_iff_ne]; omega
    have hwr1 : IntKind.i64.wrap ((L.length : Int) - (aN : Int)) = (L.length : Int) - (aN : Int) := by rw [IntKind.wrap_i64]; omega
    have hgt : decide ((L.length : Int) - (aN : Int) < (WB.length : Int)) = false := by simp; omega
    have hwr2 : IntKind.i64.wrap ((aN : Int) + (WB.length : Int)) = (aN : Int) + (WB.length : Int) := by rw [IntKind.wrap_i64]; omega
    have htn : ((aN : Int) + (WB.length : Int)).toNat = aN + WB.length := by omega
    have hs1 : 0 ≤ (aN : Int) + (WB.length : Int) ∧ (aN : Int) + (WB.length : Int) ≤ (cap : Int) := by omega
    have hs2 : (aN : Int) ≤ (aN : Int) + (WB.length : Int) := by omega
    have hs3 : ¬ cap = aN := by omega
    obtain ⟨bb, off, rfl, _⟩ := hv (by omega)
    have cutv := cut_view vB aN WB.length (by omega)
    have hCbd := cut_bd hLbd aN WB.length
    have hClen : ((L.drop aN).take WB.length).length = WB.length := by simp; omega
    have hnt : (aN : Int).toNat = aN := by omega
    rw [hnt] at hin
    obtain ⟨CB, hCB⟩ : ∃ CB, (L.drop aN).take WB.length = CB := ⟨_, rfl⟩
    rw [hCB] at cutv hCbd hClen hin
    clear hCB
    have cutb : ∀ x, (some ⟨bb, off + aN, none⟩ : Option Addr) = some x → 0 < CB.length → x.block < y.heap.size := fun x h h2 => by have h3 : bb < w.heap.size := hB ⟨bb, off, none⟩ rfl (by omega); have := BW.size; cases h; show bb < _; omega
    by_cases hCW : CB = WB
    rotate_left
    · have hE : ((txt CB).toList == (txt WB).toList) = false := by rw [txt_eq hCbd hWbd]; exact decide_eq_false hCW
      rw [if_neg (by rintro ⟨_, _, _, c⟩; exact hCW c)] at hin
      replace hin : Hid _ := hin
      go_upto_region 15 with fail
      refine wp_region_held (S := fun Y => Below y.heap.size y Y) (by kernel_rfl) ?_
      change wpAnyH _ _ _ _ _ _ _ _ (World.drew _)
      have hb0 : Below y.heap.size y y.drew := (Below.refl _ _).drew
      obtain ⟨u0, hy0⟩ : ∃ y_, y_ = y.drew := ⟨_, rfl⟩
      rw [← hy0] at hb0 ⊢
      clear hy0
      refine takeW 0 52 (.pointer (some ⟨p, 0, none⟩)) rfl rfl (by kernel_rfl) (by kernel_rfl) (by kernel_rfl) (fun _ _ _ h => h) (by kernel_rfl) (by (intro w hSw; go_simp)) (by assumption) ?_
      simp only [List.set_cons_zero, List.set_cons_succ]
      refine takeW 1 53 (.pointer (some ⟨p, 0, none⟩)) rfl rfl (by kernel_rfl) (by kernel_rfl) (by kernel_rfl) (fun _ _ _ h => h) (by kernel_rfl) (by (intro w hSw; go_simp)) (by assumption) ?_
      simp only [List.set_cons_zero, List.set_cons_succ]
      refine takeW 2 54 (.pointer (some ⟨p, 2, none⟩)) rfl rfl (by kernel_rfl) (by kernel_rfl) (by kernel_rfl) (fun _ _ _ h => h) (by kernel_rfl) (by (intro w hSw; go_simp)) (by assumption) ?_
      simp only [List.set_cons_zero, List.set_cons_succ]
      refine takeW 3 55 (.bool true) rfl rfl (by kernel_rfl) (by kernel_rfl) (by kernel_rfl) (fun _ _ _ h => h) (by kernel_rfl) (by (intro Y hSw; obtain ⟨X0, X1, X2, X3⟩ := A0.below hSw A0.lt; go_simp)) (by assumption) ?_
      simp only [List.set_cons_zero, List.set_cons_succ]
      refine takeW 4 56 (.bool false) rfl rfl (by kernel_rfl) (by kernel_rfl) (by kernel_rfl) (fun _ _ _ h => h) (by kernel_rfl) (by (intro w hSw; go_simp)) (by assumption) ?_
      simp only [List.set_cons_zero, List.set_cons_succ]
      refine takeW 5 57 (.bool false) rfl rfl (by kernel_rfl) (by kernel_rfl) (by kernel_rfl) (fun _ _ _ h => h) (by kernel_rfl) (by (intro w hSw; go_simp)) (by assumption) ?_
      simp only [List.set_cons_zero, List.set_cons_succ]
      refine takeW 6 58 (.slice aW WB.length cW) rfl rfl (by kernel_rfl) (by kernel_rfl) (by kernel_rfl) (fun _ _ _ h => h) (by kernel_rfl) (by (intro w hSw; go_simp)) (by assumption) ?_
      simp only [List.set_cons_zero, List.set_cons_succ]
      refine takeW 7 59 (.int .i64 (WB.length : Int)) rfl rfl (by kernel_rfl) (by kernel_rfl) (by kernel_rfl) (fun _ _ _ h => h) (by kernel_rfl) (by (intro w hSw; go_simp)) (by assumption) ?_
      simp only [List.set_cons_zero, List.set_cons_succ]
      refine takeW 8 60 (.bool false) rfl rfl (by kernel_rfl) (by kernel_rfl) (by kernel_rfl) (fun _ _ _ h => h) (by kernel_rfl) (by (intro w hSw; go_simp)) (by assumption) ?_
      simp only [List.set_cons_zero, List.set_cons_succ]
      refine takeW 9 61 (.bool false) rfl rfl (by kernel_rfl) (by kernel_rfl) (by kernel_rfl) (fun _ _ _ h => h) (by kernel_rfl) (by (intro w hSw; go_simp)) (by assumption) ?_
      simp only [List.set_cons_zero, List.set_cons_succ]
      refine takeW 10 62 (.bool false) rfl rfl (by kernel_rfl) (by kernel_rfl) (by kernel_rfl) (fun _ _ _ h => h) (by kernel_rfl) (by (intro w hSw; go_simp)) (by assumption) ?_
      simp only [List.set_cons_zero, List.set_cons_succ]
      refine takeW 11 63 (.slice aW WB.length cW) rfl rfl (by kernel_rfl) (by kernel_rfl) (by kernel_rfl) (fun _ _ _ h => h) (by kernel_rfl) (by (intro w hSw; go_simp)) (by assumption) ?_
      simp only [List.set_cons_zero, List.set_cons_succ]
      refine takeW 12 64 (.int .i64 (WB.length : Int)) rfl rfl (by kernel_rfl) (by kernel_rfl) (by kernel_rfl) (fun _ _ _ h => h) (by kernel_rfl) (by (intro w hSw; go_simp)) (by assumption) ?_
      simp only [List.set_cons_zero, List.set_cons_succ]
      refine takeW 13 65 (.slice (some ⟨bb, off, none⟩) L.length cap) rfl rfl (by kernel_rfl) (by kernel_rfl) (by kernel_rfl) (fun _ _ _ h => h) (by kernel_rfl) (by (intro w hSw; go_simp)) (by assumption) ?_
      simp only [List.set_cons_zero, List.set_cons_succ]
      refine takeW 14 66 (.int .i64 (L.length : Int)) rfl rfl (by kernel_rfl) (by kernel_rfl) (by kernel_rfl) (fun _ _ _ h => h) (by kernel_rfl) (by (intro w hSw; go_simp)) (by assumption) ?_
      simp only [List.set_cons_zero, List.set_cons_succ]
      refine takeW 15 67 (.int .i64 (aN : Int)) rfl rfl (by kernel_rfl) (by kernel_rfl) (by kernel_rfl) (fun _ _ _ h => h) (by kernel_rfl) (by (intro w hSw; go_simp)) (by assumption) ?_
      simp only [List.set_cons_zero, List.set_cons_succ]
      refine takeW 16 68 (.int .i64 ((L.length : Int) - (aN : Int))) rfl rfl (by kernel_rfl) (by kernel_rfl) (by kernel_rfl) (fun _ _ _ h => h) (by kernel_rfl) (by (intro w hSw; go_simp; try omega)) (by assumption) ?_
      simp only [List.set_cons_zero, List.set_cons_succ]
      refine takeW 17 69 (.bool false) rfl rfl (by kernel_rfl) (by kernel_rfl) (by kernel_rfl) (fun _ _ _ h => h) (by kernel_rfl) (by (intro w hSw; go_simp; try omega)) (by assumption) ?_
      simp only [List.set_cons_zero, List.set_cons_succ]
      refine takeW 18 70 (.bool false) rfl rfl (by kernel_rfl) (by kernel_rfl) (by kernel_rfl) (fun _ _ _ h => h) (by kernel_rfl) (by (intro w hSw; go_simp)) (by assumption) ?_
      simp only [List.set_cons_zero, List.set_cons_succ]
      refine takeW 19 71 (.bool false) rfl rfl (by kernel_rfl) (by kernel_rfl) (by kernel_rfl) (fun _ _ _ h => h) (by kernel_rfl) (by (intro w hSw; go_simp)) (by assumption) ?_
      simp only [List.set_cons_zero, List.set_cons_succ]
      refine takeW 20 72 (.slice (some ⟨bb, off, none⟩) L.length cap) rfl rfl (by kernel_rfl) (by kernel_rfl) (by kernel_rfl) (fun _ _ _ h => h) (by kernel_rfl) (by (intro w hSw; go_simp)) (by assumption) ?_
      simp only [List.set_cons_zero, List.set_cons_succ]
      refine takeW 21 73 (.int .i64 (aN : Int)) rfl rfl (by kernel_rfl) (by kernel_rfl) (by kernel_rfl) (fun _ _ _ h => h) (by kernel_rfl) (by (intro w hSw; go_simp)) (by assumption) ?_
      simp only [List.set_cons_zero, List.set_cons_succ]
      refine takeW 22 74 (.int .i64 (aN : Int)) rfl rfl (by kernel_rfl) (by kernel_rfl) (by kernel_rfl) (fun _ _ _ h => h) (by kernel_rfl) (by (intro w hSw; go_simp)) (by assumption) ?_
      simp only [List.set_cons_zero, List.set_cons_succ]
      refine takeW 23 75 (.slice aW WB.length cW) rfl rfl (by kernel_rfl) (by kernel_rfl) (by kernel_rfl) (fun _ _ _ h => h) (by kernel_rfl) (by (intro w hSw; go_simp)) (by assumption) ?_
      simp only [List.set_cons_zero, List.set_cons_succ]
      refine takeW 24 76 (.int .i64 (WB.length : Int)) rfl rfl (by kernel_rfl) (by kernel_rfl) (by kernel_rfl) (fun _ _ _ h => h) (by kernel_rfl) (by (intro w hSw; go_simp)) (by assumption) ?_
      simp only [List.set_cons_zero, List.set_cons_succ]
      refine takeW 25 77 (.int .i64 ((aN : Int) + (WB.length : Int))) rfl rfl (by kernel_rfl) (by kernel_rfl) (by kernel_rfl) (fun _ _ _ h => h) (by kernel_rfl) (by (intro w hSw; go_simp; try omega)) (by assumption) ?_
      simp only [List.set_cons_zero, List.set_cons_succ]
      refine takeW 26 78 (.slice (some ⟨bb, off + aN, none⟩) WB.length (cap - aN)) rfl rfl (by kernel_rfl) (by kernel_rfl) (by kernel_rfl) (fun _ _ _ h => h) (by kernel_rfl) (by (intro w hSw; go_simp; try omega)) (by assumption) ?_
      simp only [List.set_cons_zero, List.set_cons_succ]
      refine takeW 27 79 (.string (txt CB)) rfl rfl (by kernel_rfl) (by kernel_rfl) (by kernel_rfl) (fun _ _ _ h => h) (by kernel_rfl) (by (intro Y hSw; have hq := conv_view (cap := cap - aN) (cutv.carry (w' := Y) (fun x h h2 => hSw.block _ (cutb x h h2))) hCbd; rw [hClen] at hq; go_simp)) (by assumption) ?_
      simp only [List.set_cons_zero, List.set_cons_succ]
      refine takeW 28 80 (.slice aW WB.length cW) rfl rfl (by kernel_rfl) (by kernel_rfl) (by kernel_rfl) (fun _ _ _ h => h) (by kernel_rfl) (by (intro w hSw; go_simp)) (by assumption) ?_
      simp only [List.set_cons_zero, List.set_cons_succ]
      refine takeW 29 81 (.string (txt WB)) rfl rfl (by kernel_rfl) (by kernel_rfl) (by kernel_rfl) (fun _ _ _ h => h) (by kernel_rfl) (by (intro Y hSw; have hq := conv_view (cap := cW) (bV (OW.later hSw).view.2) hWbd; go_simp)) (by assumption) ?_
      simp only [List.set_cons_zero, List.set_cons_succ]
      refine takeW 30 82 (.bool true) rfl rfl (by kernel_rfl) (by kernel_rfl) (by kernel_rfl) (fun _ _ _ h => h) (by kernel_rfl) (by (intro w hSw; go_simp)) (by assumption) ?_
      simp only [List.set_cons_zero, List.set_cons_succ]
      refine takeW 31 83 (.bool true) rfl rfl (by kernel_rfl) (by kernel_rfl) (by kernel_rfl) (fun _ _ _ h => h) (by kernel_rfl) (by (intro w hSw; go_simp)) (by assumption) ?_
      simp only [List.set_cons_zero, List.set_cons_succ]
      refine wpAnyH_done (by kernel_rfl) ?_ _
      replace BW := BW.trans (hb0.mono BW.size)
      have X1 := X0.below hb0 X0.lt
      have Z1 := Z0.below hb0 Z0.lt
      obtain ⟨⟨e0, e1, e2, e3, e4, e5, e6, e7⟩, ef⟩ := Z1
      have f0 := ef 0
      have f1 := ef 1
      have f2 := ef 2
      have f3 := ef 3
      have f4 := ef 4
      have f5 := ef 5
      have f6 := ef 6
      have f7 := ef 7
      go_wp2
      refine bodyPost_ret (v := .tuple #[.agg #[.int .i64 0, .int .i64 0, .int .i64 0, .int .i64 0, .int .i64 0, .int .i64 0, .int .i64 0, .bool false], .int .i64 0, .bool false]) (by simp [results, Tryz.results10, go_sem, *]) rfl ⟨?_, ?_⟩
      · rw [hin]; rfl
      · exact below_all BW (Nat.le_refl _) Ik.nil
    have hE : ((txt CB).toList == (txt WB).toList) = true := by rw [txt_eq hCbd hWbd]; exact decide_eq_true hCW
    rw [if_pos ⟨rfl, by intro e; rw [e] at hw0; simp at hw0, by omega, hCW⟩] at hin
    replace hin : Hid _ := hin
    go_upto_region 15 with fail
    refine wp_region_held (S := fun Y => Below y.heap.size y Y) (by kernel_rfl) ?_
    change wpAnyH _ _ _ _ _ _ _ _ (World.drew _)
    have hb0 : Below y.heap.size y y.drew := (Below.refl _ _).drew
    obtain ⟨u0, hy0⟩ : ∃ y_, y_ = y.drew := ⟨_, rfl⟩
    rw [← hy0] at hb0 ⊢
    clear hy0
    refine takeW 0 52 (.pointer (some ⟨p, 0, none⟩)) rfl rfl (by kernel_rfl) (by kernel_rfl) (by kernel_rfl) (fun _ _ _ h => h) (by kernel_rfl) (by (intro w hSw; go_simp)) (by assumption) ?_
    simp only [List.set_cons_zero, List.set_cons_succ]
    refine takeW 1 53 (.pointer (some ⟨p, 0, none⟩)) rfl rfl (by kernel_rfl) (by kernel_rfl) (by kernel_rfl) (fun _ _ _ h => h) (by kernel_rfl) (by (intro w hSw; go_simp)) (by assumption) ?_
    simp only [List.set_cons_zero, List.set_cons_succ]
    refine takeW 2 54 (.pointer (some ⟨p, 2, none⟩)) rfl rfl (by kernel_rfl) (by kernel_rfl) (by kernel_rfl) (fun _ _ _ h => h) (by kernel_rfl) (by (intro w hSw; go_simp)) (by assumption) ?_
    simp only [List.set_cons_zero, List.set_cons_succ]
    refine takeW 3 55 (.bool true) rfl rfl (by kernel_rfl) (by kernel_rfl) (by kernel_rfl) (fun _ _ _ h => h) (by kernel_rfl) (by (intro Y hSw; obtain ⟨X0, X1, X2, X3⟩ := A0.below hSw A0.lt; go_simp)) (by assumption) ?_
    simp only [List.set_cons_zero, List.set_cons_succ]
    refine takeW 4 56 (.bool false) rfl rfl (by kernel_rfl) (by kernel_rfl) (by kernel_rfl) (fun _ _ _ h => h) (by kernel_rfl) (by (intro w hSw; go_simp)) (by assumption) ?_
    simp only [List.set_cons_zero, List.set_cons_succ]
    refine takeW 5 57 (.bool false) rfl rfl (by kernel_rfl) (by kernel_rfl) (by kernel_rfl) (fun _ _ _ h => h) (by kernel_rfl) (by (intro w hSw; go_simp)) (by assumption) ?_
    simp only [List.set_cons_zero, List.set_cons_succ]
    refine takeW 6 58 (.slice aW WB.length cW) rfl rfl (by kernel_rfl) (by kernel_rfl) (by kernel_rfl) (fun _ _ _ h => h) (by kernel_rfl) (by (intro w hSw; go_simp)) (by assumption) ?_
    simp only [List.set_cons_zero, List.set_cons_succ]
    refine takeW 7 59 (.int .i64 (WB.length : Int)) rfl rfl (by kernel_rfl) (by kernel_rfl) (by kernel_rfl) (fun _ _ _ h => h) (by kernel_rfl) (by (intro w hSw; go_simp)) (by assumption) ?_
    simp only [List.set_cons_zero, List.set_cons_succ]
    refine takeW 8 60 (.bool false) rfl rfl (by kernel_rfl) (by kernel_rfl) (by kernel_rfl) (fun _ _ _ h => h) (by kernel_rfl) (by (intro w hSw; go_simp)) (by assumption) ?_
    simp only [List.set_cons_zero, List.set_cons_succ]
    refine takeW 9 61 (.bool false) rfl rfl (by kernel_rfl) (by kernel_rfl) (by kernel_rfl) (fun _ _ _ h => h) (by kernel_rfl) (by (intro w hSw; go_simp)) (by assumption) ?_
    simp only [List.set_cons_zero, List.set_cons_succ]
    refine takeW 10 62 (.bool false) rfl rfl (by kernel_rfl) (by kernel_rfl) (by kernel_rfl) (fun _ _ _ h => h) (by kernel_rfl) (by (intro w hSw; go_simp)) (by assumption) ?_
    simp only [List.set_cons_zero, List.set_cons_succ]
    refine takeW 11 63 (.slice aW WB.length cW) rfl rfl (by kernel_rfl) (by kernel_rfl) (by kernel_rfl) (fun _ _ _ h => h) (by kernel_rfl) (by (intro w hSw; go_simp)) (by assumption) ?_
    simp only [List.set_cons_zero, List.set_cons_succ]
    refine takeW 12 64 (.int .i64 (WB.length : Int)) rfl rfl (by kernel_rfl) (by kernel_rfl) (by kernel_rfl) (fun _ _ _ h => h) (by kernel_rfl) (by (intro w hSw; go_simp)) (by assumption) ?_
    simp only [List.set_cons_zero, List.set_cons_succ]
    refine takeW 13 65 (.slice (some ⟨bb, off, none⟩) L.length cap) rfl rfl (by kernel_rfl) (by kernel_rfl) (by kernel_rfl) (fun _ _ _ h => h) (by kernel_rfl) (by (intro w hSw; go_simp)) (by assumption) ?_
    simp only [List.set_cons_zero, List.set_cons_succ]
    refine takeW 14 66 (.int .i64 (L.length : Int)) rfl rfl (by kernel_rfl) (by kernel_rfl) (by kernel_rfl) (fun _ _ _ h => h) (by kernel_rfl) (by (intro w hSw; go_simp)) (by assumption) ?_
    simp only [List.set_cons_zero, List.set_cons_succ]
    refine takeW 15 67 (.int .i64 (aN : Int)) rfl rfl (by kernel_rfl) (by kernel_rfl) (by kernel_rfl) (fun _ _ _ h => h) (by kernel_rfl) (by (intro w hSw; go_simp)) (by assumption) ?_
    simp only [List.set_cons_zero, List.set_cons_succ]
    refine takeW 16 68 (.int .i64 ((L.length : Int) - (aN : Int))) rfl rfl (by kernel_rfl) (by kernel_rfl) (by kernel_rfl) (fun _ _ _ h => h) (by kernel_rfl) (by (intro w hSw; go_simp; try omega)) (by assumption) ?_
    simp only [List.set_cons_zero, List.set_cons_succ]
    refine takeW 17 69 (.bool false) rfl rfl (by kernel_rfl) (by kernel_rfl) (by kernel_rfl) (fun _ _ _ h => h) (by kernel_rfl) (by (intro w hSw; go_simp; try omega)) (by assumption) ?_
    simp only [List.set_cons_zero, List.set_cons_succ]
    refine takeW 18 70 (.bool false) rfl rfl (by kernel_rfl) (by kernel_rfl) (by kernel_rfl) (fun _ _ _ h => h) (by kernel_rfl) (by (intro w hSw; go_simp)) (by assumption) ?_
    simp only [List.set_cons_zero, List.set_cons_succ]
    refine takeW 19 71 (.bool false) rfl rfl (by kernel_rfl) (by kernel_rfl) (by kernel_rfl) (fun _ _ _ h => h) (by kernel_rfl) (by (intro w hSw; go_simp)) (by assumption) ?_
    simp only [List.set_cons_zero, List.set_cons_succ]
    refine takeW 20 72 (.slice (some ⟨bb, off, none⟩) L.length cap) rfl rfl (by kernel_rfl) (by kernel_rfl) (by kernel_rfl) (fun _ _ _ h => h) (by kernel_rfl) (by (intro w hSw; go_simp)) (by assumption) ?_
    simp only [List.set_cons_zero, List.set_cons_succ]
    refine takeW 21 73 (.int .i64 (aN : Int)) rfl rfl (by kernel_rfl) (by kernel_rfl) (by kernel_rfl) (fun _ _ _ h => h) (by kernel_rfl) (by (intro w hSw; go_simp)) (by assumption) ?_
    simp only [List.set_cons_zero, List.set_cons_succ]
    refine takeW 22 74 (.int .i64 (aN : Int)) rfl rfl (by kernel_rfl) (by kernel_rfl) (by kernel_rfl) (fun _ _ _ h => h) (by kernel_rfl) (by (intro w hSw; go_simp)) (by assumption) ?_
    simp only [List.set_cons_zero, List.set_cons_succ]
    refine takeW 23 75 (.slice aW WB.length cW) rfl rfl (by kernel_rfl) (by kernel_rfl) (by kernel_rfl) (fun _ _ _ h => h) (by kernel_rfl) (by (intro w hSw; go_simp)) (by assumption) ?_
    simp only [List.set_cons_zero, List.set_cons_succ]
    refine takeW 24 76 (.int .i64 (WB.length : Int)) rfl rfl (by kernel_rfl) (by kernel_rfl) (by kernel_rfl) (fun _ _ _ h => h) (by kernel_rfl) (by (intro w hSw; go_simp)) (by assumption) ?_
    simp only [List.set_cons_zero, List.set_cons_succ]
    refine takeW 25 77 (.int .i64 ((aN : Int) + (WB.length : Int))) rfl rfl (by kernel_rfl) (by kernel_rfl) (by kernel_rfl) (fun _ _ _ h => h) (by kernel_rfl) (by (intro w hSw; go_simp; try omega)) (by assumption) ?_
    simp only [List.set_cons_zero, List.set_cons_succ]
    refine takeW 26 78 (.slice (some ⟨bb, off + aN, none⟩) WB.length (cap - aN)) rfl rfl (by kernel_rfl) (by kernel_rfl) (by kernel_rfl) (fun _ _ _ h => h) (by kernel_rfl) (by (intro w hSw; go_simp; try omega)) (by assumption) ?_
    simp only [List.set_cons_zero, List.set_cons_succ]
    refine takeW 27 79 (.string (txt CB)) rfl rfl (by kernel_rfl) (by kernel_rfl) (by kernel_rfl) (fun _ _ _ h => h) (by kernel_rfl) (by (intro Y hSw; have hq := conv_view (cap := cap - aN) (cutv.carry (w' := Y) (fun x h h2 => hSw.block _ (cutb x h h2))) hCbd; rw [hClen] at hq; go_simp)) (by assumption) ?_
    simp only [List.set_cons_zero, List.set_cons_succ]
    refine takeW 28 80 (.slice aW WB.length cW) rfl rfl (by kernel_rfl) (by kernel_rfl) (by kernel_rfl) (fun _ _ _ h => h) (by kernel_rfl) (by (intro w hSw; go_simp)) (by assumption) ?_
    simp only [List.set_cons_zero, List.set_cons_succ]
    refine takeW 29 81 (.string (txt WB)) rfl rfl (by kernel_rfl) (by kernel_rfl) (by kernel_rfl) (fun _ _ _ h => h) (by kernel_rfl) (by (intro Y hSw; have hq := conv_view (cap := cW) (bV (OW.later hSw).view.2) hWbd; go_simp)) (by assumption) ?_
    simp only [List.set_cons_zero, List.set_cons_succ]
    refine takeW 30 82 (.bool false) rfl rfl (by kernel_rfl) (by kernel_rfl) (by kernel_rfl) (fun _ _ _ h => h) (by kernel_rfl) (by (intro w hSw; go_simp)) (by assumption) ?_
    simp only [List.set_cons_zero, List.set_cons_succ]
    refine takeW 31 83 (.bool false) rfl rfl (by kernel_rfl) (by kernel_rfl) (by kernel_rfl) (fun _ _ _ h => h) (by kernel_rfl) (by (intro w hSw; go_simp)) (by assumption) ?_
    simp only [List.set_cons_zero, List.set_cons_succ]
    refine wpAnyH_done (by kernel_rfl) ?_ _
    replace BW := BW.trans (hb0.mono BW.size)
    have X1 := X0.below hb0 X0.lt
    have Z1 := Z0.below hb0 Z0.lt
    obtain ⟨⟨e0, e1, e2, e3, e4, e5, e6, e7⟩, ef⟩ := Z1
    have f0 := ef 0
    have f1 := ef 1
    have f2 := ef 2
    have f3 := ef 3
    have f4 := ef 4
    have f5 := ef 5
    have f6 := ef 6
    have f7 := ef 7
    obtain ⟨⟨g0, g1, g2, g3, g4, g5, g6, g7⟩, gf⟩ := X1
    go_wp2
    refine bodyPost_ret (v := .tuple #[.agg #[.int .i64 xx.k, .int .i64 xx.q, .int .i64 xx.r, .int .i64 xx.c, .int .i64 xx.b, .int .i64 xx.p, .int .i64 xx.h, .bool xx.up], .int .i64 ((aN : Int) + (WB.length : Int)), .bool true]) (by simp [results, Tryz.results10, go_sem, *]) rfl ⟨?_, ?_⟩
    · rw [hin]; rfl
    · exact below_all BW (Nat.le_refl _) xx
  subst hO
  rw [if_neg (by simp)] at hin
  replace hin : Hid _ := hin
  go_upto_region 15 with fail
  refine wp_region_held (S := fun Y => Below y.heap.size y Y) (by kernel_rfl) ?_
  change wpAnyH _ _ _ _ _ _ _ _ (World.drew _)
  have hb0 : Below y.heap.size y y.drew := (Below.refl _ _).drew
  obtain ⟨u0, hy0⟩ : ∃ y_, y_ = y.drew := ⟨_, rfl⟩
  rw [← hy0] at hb0 ⊢
  clear hy0
  refine takeW 0 52 (.pointer (some ⟨p, 0, none⟩)) rfl rfl (by kernel_rfl) (by kernel_rfl) (by kernel_rfl) (fun _ _ _ h => h) (by kernel_rfl) (by (intro w hSw; go_simp)) (by assumption) ?_
  simp only [List.set_cons_zero, List.set_cons_succ]
  refine takeW 1 53 (.pointer (some ⟨p, 0, none⟩)) rfl rfl (by kernel_rfl) (by kernel_rfl) (by kernel_rfl) (fun _ _ _ h => h) (by kernel_rfl) (by (intro w hSw; go_simp)) (by assumption) ?_
  simp only [List.set_cons_zero, List.set_cons_succ]
  refine takeW 2 54 (.pointer (some ⟨p, 2, none⟩)) rfl rfl (by kernel_rfl) (by kernel_rfl) (by kernel_rfl) (fun _ _ _ h => h) (by kernel_rfl) (by (intro w hSw; go_simp)) (by assumption) ?_
  simp only [List.set_cons_zero, List.set_cons_succ]
  refine takeW 3 55 (.bool false) rfl rfl (by kernel_rfl) (by kernel_rfl) (by kernel_rfl) (fun _ _ _ h => h) (by kernel_rfl) (by (intro Y hSw; obtain ⟨X0, X1, X2, X3⟩ := A0.below hSw A0.lt; go_simp)) (by assumption) ?_
  simp only [List.set_cons_zero, List.set_cons_succ]
  refine takeW 4 56 (.bool true) rfl rfl (by kernel_rfl) (by kernel_rfl) (by kernel_rfl) (fun _ _ _ h => h) (by kernel_rfl) (by (intro w hSw; go_simp)) (by assumption) ?_
  simp only [List.set_cons_zero, List.set_cons_succ]
  refine takeW 5 57 (.bool true) rfl rfl (by kernel_rfl) (by kernel_rfl) (by kernel_rfl) (fun _ _ _ h => h) (by kernel_rfl) (by (intro w hSw; go_simp)) (by assumption) ?_
  simp only [List.set_cons_zero, List.set_cons_succ]
  refine takeS 6 58 rfl rfl (by kernel_rfl) (by kernel_rfl) (by kernel_rfl) (fun _ _ _ h => h) (by kernel_rfl) (by assumption) ?_
  simp only [List.set_cons_zero, List.set_cons_succ]
  refine takeS 7 59 rfl rfl (by kernel_rfl) (by kernel_rfl) (by kernel_rfl) (fun _ _ _ h => h) (by kernel_rfl) (by assumption) ?_
  simp only [List.set_cons_zero, List.set_cons_succ]
  refine takeS 8 60 rfl rfl (by kernel_rfl) (by kernel_rfl) (by kernel_rfl) (fun _ _ _ h => h) (by kernel_rfl) (by assumption) ?_
  simp only [List.set_cons_zero, List.set_cons_succ]
  refine takeW 9 61 (.bool true) rfl rfl (by kernel_rfl) (by kernel_rfl) (by kernel_rfl) (fun _ _ _ h => h) (by kernel_rfl) (by (intro w hSw; go_simp)) (by assumption) ?_
  simp only [List.set_cons_zero, List.set_cons_succ]
  refine takeW 10 62 (.bool true) rfl rfl (by kernel_rfl) (by kernel_rfl) (by kernel_rfl) (fun _ _ _ h => h) (by kernel_rfl) (by (intro w hSw; go_simp)) (by assumption) ?_
  simp only [List.set_cons_zero, List.set_cons_succ]
  refine takeS 11 63 rfl rfl (by kernel_rfl) (by kernel_rfl) (by kernel_rfl) (fun _ _ _ h => h) (by kernel_rfl) (by assumption) ?_
  simp only [List.set_cons_zero, List.set_cons_succ]
  refine takeS 12 64 rfl rfl (by kernel_rfl) (by kernel_rfl) (by kernel_rfl) (fun _ _ _ h => h) (by kernel_rfl) (by assumption) ?_
  simp only [List.set_cons_zero, List.set_cons_succ]
  refine takeS 13 65 rfl rfl (by kernel_rfl) (by kernel_rfl) (by kernel_rfl) (fun _ _ _ h => h) (by kernel_rfl) (by assumption) ?_
  simp only [List.set_cons_zero, List.set_cons_succ]
  refine takeS 14 66 rfl rfl (by kernel_rfl) (by kernel_rfl) (by kernel_rfl) (fun _ _ _ h => h) (by kernel_rfl) (by assumption) ?_
  simp only [List.set_cons_zero, List.set_cons_succ]
  refine takeS 15 67 rfl rfl (by kernel_rfl) (by kernel_rfl) (by kernel_rfl) (fun _ _ _ h => h) (by kernel_rfl) (by assumption) ?_
  simp only [List.set_cons_zero, List.set_cons_succ]
  refine takeS 16 68 rfl rfl (by kernel_rfl) (by kernel_rfl) (by kernel_rfl) (fun _ _ _ h => h) (by kernel_rfl) (by assumption) ?_
  simp only [List.set_cons_zero, List.set_cons_succ]
  refine takeS 17 69 rfl rfl (by kernel_rfl) (by kernel_rfl) (by kernel_rfl) (fun _ _ _ h => h) (by kernel_rfl) (by assumption) ?_
  simp only [List.set_cons_zero, List.set_cons_succ]
  refine takeW 18 70 (.bool true) rfl rfl (by kernel_rfl) (by kernel_rfl) (by kernel_rfl) (fun _ _ _ h => h) (by kernel_rfl) (by (intro w hSw; go_simp)) (by assumption) ?_
  simp only [List.set_cons_zero, List.set_cons_succ]
  refine takeW 19 71 (.bool true) rfl rfl (by kernel_rfl) (by kernel_rfl) (by kernel_rfl) (fun _ _ _ h => h) (by kernel_rfl) (by (intro w hSw; go_simp)) (by assumption) ?_
  simp only [List.set_cons_zero, List.set_cons_succ]
  refine takeS 20 72 rfl rfl (by kernel_rfl) (by kernel_rfl) (by kernel_rfl) (fun _ _ _ h => h) (by kernel_rfl) (by assumption) ?_
  simp only [List.set_cons_zero, List.set_cons_succ]
  refine takeS 21 73 rfl rfl (by kernel_rfl) (by kernel_rfl) (by kernel_rfl) (fun _ _ _ h => h) (by kernel_rfl) (by assumption) ?_
  simp only [List.set_cons_zero, List.set_cons_succ]
  refine takeS 22 74 rfl rfl (by kernel_rfl) (by kernel_rfl) (by kernel_rfl) (fun _ _ _ h => h) (by kernel_rfl) (by assumption) ?_
  simp only [List.set_cons_zero, List.set_cons_succ]
  refine takeS 23 75 rfl rfl (by kernel_rfl) (by kernel_rfl) (by kernel_rfl) (fun _ _ _ h => h) (by kernel_rfl) (by assumption) ?_
  simp only [List.set_cons_zero, List.set_cons_succ]
  refine takeS 24 76 rfl rfl (by kernel_rfl) (by kernel_rfl) (by kernel_rfl) (fun _ _ _ h => h) (by kernel_rfl) (by assumption) ?_
  simp only [List.set_cons_zero, List.set_cons_succ]
  refine takeS 25 77 rfl rfl (by kernel_rfl) (by kernel_rfl) (by kernel_rfl) (fun _ _ _ h => h) (by kernel_rfl) (by assumption) ?_
  simp only [List.set_cons_zero, List.set_cons_succ]
  refine takeS 26 78 rfl rfl (by kernel_rfl) (by kernel_rfl) (by kernel_rfl) (fun _ _ _ h => h) (by kernel_rfl) (by assumption) ?_
  simp only [List.set_cons_zero, List.set_cons_succ]
  refine takeS 27 79 rfl rfl (by kernel_rfl) (by kernel_rfl) (by kernel_rfl) (fun _ _ _ h => h) (by kernel_rfl) (by assumption) ?_
  simp only [List.set_cons_zero, List.set_cons_succ]
  refine takeS 28 80 rfl rfl (by kernel_rfl) (by kernel_rfl) (by kernel_rfl) (fun _ _ _ h => h) (by kernel_rfl) (by assumption) ?_
  simp only [List.set_cons_zero, List.set_cons_succ]
  refine takeS 29 81 rfl rfl (by kernel_rfl) (by kernel_rfl) (by kernel_rfl) (fun _ _ _ h => h) (by kernel_rfl) (by assumption) ?_
  simp only [List.set_cons_zero, List.set_cons_succ]
  refine takeS 30 82 rfl rfl (by kernel_rfl) (by kernel_rfl) (by kernel_rfl) (fun _ _ _ h => h) (by kernel_rfl) (by assumption) ?_
  simp only [List.set_cons_zero, List.set_cons_succ]
  refine takeW 31 83 (.bool true) rfl rfl (by kernel_rfl) (by kernel_rfl) (by kernel_rfl) (fun _ _ _ h => h) (by kernel_rfl) (by (intro w hSw; go_simp)) (by assumption) ?_
  simp only [List.set_cons_zero, List.set_cons_succ]
  refine wpAnyH_done (by kernel_rfl) ?_ _
  replace BW := BW.trans (hb0.mono BW.size)
  have X1 := X0.below hb0 X0.lt
  have Z1 := Z0.below hb0 Z0.lt
  obtain ⟨⟨e0, e1, e2, e3, e4, e5, e6, e7⟩, ef⟩ := Z1
  have f0 := ef 0
  have f1 := ef 1
  have f2 := ef 2
  have f3 := ef 3
  have f4 := ef 4
  have f5 := ef 5
  have f6 := ef 6
  have f7 := ef 7
  go_wp2
  refine bodyPost_ret (v := .tuple #[.agg #[.int .i64 0, .int .i64 0, .int .i64 0, .int .i64 0, .int .i64 0, .int .i64 0, .int .i64 0, .bool false], .int .i64 0, .bool false]) (by simp [results, Tryz.results10, go_sem, *]) rfl ⟨?_, ?_⟩
  · rw [hin]; rfl
  · exact below_all BW (Nat.le_refl _) Ik.nil

end Go.Proofs.YthgcbihhdbpbdaaGreatDoor
