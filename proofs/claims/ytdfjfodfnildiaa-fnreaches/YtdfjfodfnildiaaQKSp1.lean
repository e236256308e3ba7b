/- spec.l10Other, walked. -/
import Derived.Test.YtdfjfodfnildiaaRows
import Derived.WalkKit
import Derived.ProofKit
import Derived.OpenShut
import Derived.ShutString
import Derived.ChangeOld
import Derived.Below
import Derived.Deep.QuietTactic
import Derived.BigQuiet
import Derived.WalkSmall
import Derived.Laws.OwnMore
import Derived.WalkSpells
import Derived.WalkLawsBesides
import Derived.Deep.Cut
import Derived.Laws.StructEq
import Derived.Test.YtdfjfodfnildiaaQKNo3
namespace Go.Proofs.Ytdfjfodfnildiaa
open Go.ChangeShapes Go.WideShapes Go.ChangeAt Go.RowKit
open Go.ChangeMaps (open_string shut_string)
set_option linter.unusedVariables false
set_option maxRecDepth 100000

theorem results_tmp3 {fn : Func} {t u v : Tmp} (h : fn.results = #[.tmp t, .tmp u, .tmp v]) (tmps : Array Value) (P : Program) (w : World) :
    (results fn tmps).run P w = .ok (.tuple #[tmps.getD t undef, tmps.getD u undef, tmps.getD v undef]) w := by
  simp [results, h]
def othV : Option (Int × Int) → Value
  | some z => .tuple #[.int .i64 z.1, .int .i64 z.2, .bool true]
  | none => .tuple #[.int .i64 0, .int .i64 0, .bool false]
theorem drop_one {X : Type} (K : List X) (d : X) {j : Nat} (h : j < K.length) : K.drop j = K.getD j d :: K.drop (j + 1) := by
  rw [List.drop_eq_getElem_cons h]
  simp [List.getD, h]
set_option maxHeartbeats 8000000 in
theorem otherS (adB : Option Addr) (capB : Nat) (Bs : List Bd) (adK : Option Addr) (capK : Nat) (K : List Lk) (a p : Int) (w : World) (h : NN w adB Bs adK K) :
    Calls Try.prog 121 #[.agg #[.slice adB Bs.length capB, .slice adK K.length capK], .int .i64 a, .int .i64 p] w fun e w' => e = .returned (othV (otherL K a p)) ∧ Below w.heap.size w w' := by
  obtain ⟨_, hv, _, _, hl⟩ := h
  have hB := hv.lt lkEnc_len (by omega)
  obtain ⟨O, hO⟩ : ∃ O, Hid (otherL K a p = O) := ⟨_, rfl⟩
  rw [hO.out]
  obtain ⟨y, hy⟩ : ∃ y, y = w.alloc (Obj.cells #[.slice adB Bs.length capB, .slice adK K.length capK] 27) := ⟨_, rfl⟩
  have B0 : Below w.heap.size w y := by rw [hy]; exact below_new _
  have A0 : NeAt y w.heap.size (.slice adB Bs.length capB) (.slice adK K.length capK) := by rw [hy]; exact NeAt.new w _
  go_enter Try.func121, Try.ntmps121
  go_wp2
  rw [← hy]
  clear hy
  go_loopw [9] (fun i wr => ∃ k : Nat, k ≤ K.length ∧ i = .int .i64 k ∧ Hid (O = otherL (K.drop k) a p) ∧ Below w.heap.size w wr ∧ NeAt wr w.heap.size (.slice adB Bs.length capB) (.slice adK K.length capK)) (fun i _ => K.length - (intOf i).toNat)
  case atStart => exact ⟨0, Nat.zero_le _, rfl, by unfold Hid; rw [List.drop_zero]; exact hO.out.symm, B0, A0⟩
  case round =>
    obtain ⟨k, hk, rfl, hd, hb, A⟩ := hrel
    clear B0 A0 hO
    have cc := A
    obtain ⟨a0, a1_⟩ := cc
    by_cases hlt : k < K.length
    · obtain ⟨b, off, rfl, _⟩ := hv (by omega)
      obtain ⟨x, hh⟩ : ∃ h, K.getD k Lk.nil = h := ⟨_, rfl⟩
      have hck : LkAtO wr b (off + k * 4) x := by
        rw [← hh]
        exact lkAtO_of ((hv.below hb hB).at_ lkEnc_len Lk.nil hlt)
      have hd : Hid (O = otherL (x :: K.drop (k + 1)) a p) := by
        unfold Hid
        rw [hd.out, drop_one K Lk.nil hlt, hh]
      obtain ⟨c0, c1, c2, c3⟩ := hck
      obtain ⟨u, hu⟩ : ∃ u, u = wr.alloc (Obj.cells #[.int .i64 x.a, .int .i64 x.p, .int .i64 x.b, .int .i64 x.q] 64) := ⟨_, rfl⟩
      have bu : Below w.heap.size w u := by rw [hu]; exact hb.alloc hb.size _
      have Au : NeAt u w.heap.size (.slice adB Bs.length capB) (.slice (some ⟨b, off, none⟩) K.length capK) := by rw [hu]; exact A.below (below_new _) A.lt
      have hx0 : LkAtO u wr.heap.size 0 x := by rw [hu]; constructor <;> simp [go_sem]
      have hxl : wr.heap.size < u.heap.size := World.block_lt_of_cell? u _ hx0.c0
      have hx : ∀ Y, Below u.heap.size u Y → LkAtO Y wr.heap.size 0 x := fun Y hY => hx0.below hY hxl
      clear hv hh hB
      by_cases g0 : x.a = a
      rotate_left
      · have z1 : (x.a == a) = false := by simp [g0]
        have z2 : decide (x.a = a) = false := decide_eq_false g0
        have ng : Hid (¬ (x.a = a ∧ x.p = p)) := fun h => g0 h.1
        clear g0
        by_cases j0 : x.b = a
        rotate_left
        · have z1 : (x.b == a) = false := by simp [j0]
          have z2 : decide (x.b = a) = false := decide_eq_false j0
          have nj : Hid (¬ (x.b = a ∧ x.q = p)) := fun h => j0 h.1
          clear j0
          go_upto_region 3 with fail
          rw [← hu]
          clear hu c0 c1 c2 c3
          go_wp2
          go_roundw
          case rel =>
            refine ⟨k + 1, by omega, by go_num, ?_, bu, Au⟩
            unfold Hid
            rw [hd.out]
            show otherL (x :: _) a p = _
            rw [otherL, if_neg ng.out, if_neg nj.out]
          case measure => simp [intOf]; omega
        have ja : (x.b == a) = true := by simp [j0]
        have jb : decide (x.b = a) = true := decide_eq_true j0
        by_cases j1 : x.q = p
        rotate_left
        · have z3 : (x.q == p) = false := by simp [j1]
          have z4 : decide (x.q = p) = false := decide_eq_false j1
          have nj : Hid (¬ (x.b = a ∧ x.q = p)) := fun h => j1 h.2
          clear j0 j1
          go_upto_region 3 with fail
          rw [← hu]
          clear hu c0 c1 c2 c3
          go_wp2
          go_roundw
          case rel =>
            refine ⟨k + 1, by omega, by go_num, ?_, bu, Au⟩
            unfold Hid
            rw [hd.out]
            show otherL (x :: _) a p = _
            rw [otherL, if_neg ng.out, if_neg nj.out]
          case measure => simp [intOf]; omega
        have jc : (x.q == p) = true := by simp [j1]
        have jd : decide (x.q = p) = true := decide_eq_true j1
        have nj : Hid (x.b = a ∧ x.q = p) := ⟨j0, j1⟩
        clear j0 j1
        go_upto_region 8 with fail
        rw [← hu]
        clear hu c0 c1 c2 c3
        refine wp_region_held (S := fun Y => Below u.heap.size u Y) (by kernel_rfl) ?_
        change wpAnyH _ _ _ _ _ _ _ _ (World.drew _)
        have hb0 : Below u.heap.size u u.drew := (Below.refl _ _).drew
        obtain ⟨u0, hy0⟩ : ∃ y_, y_ = u.drew := ⟨_, rfl⟩
        rw [← hy0] at hb0 ⊢
        clear hy0
        refine takeW 0 47 (.pointer (some ⟨wr.heap.size, 0, none⟩)) rfl rfl (by kernel_rfl) (by kernel_rfl) (by kernel_rfl) (fun _ _ _ h => h) (by kernel_rfl) (by (intro w hSw; go_simp)) (by assumption) ?_
        simp only [List.set_cons_zero, List.set_cons_succ]
        refine takeW 1 48 (.int .i64 x.a) rfl rfl (by kernel_rfl) (by kernel_rfl) (by kernel_rfl) (fun _ _ _ h => h) (by kernel_rfl) (by (intro Y hSw; obtain ⟨X0, X1, X2, X3⟩ := hx Y hSw; go_simp)) (by assumption) ?_
        simp only [List.set_cons_zero, List.set_cons_succ]
        refine takeW 2 49 (.pointer (some ⟨wr.heap.size, 1, none⟩)) rfl rfl (by kernel_rfl) (by kernel_rfl) (by kernel_rfl) (fun _ _ _ h => h) (by kernel_rfl) (by (intro w hSw; go_simp)) (by assumption) ?_
        simp only [List.set_cons_zero, List.set_cons_succ]
        refine takeW 3 50 (.int .i64 x.p) rfl rfl (by kernel_rfl) (by kernel_rfl) (by kernel_rfl) (fun _ _ _ h => h) (by kernel_rfl) (by (intro Y hSw; obtain ⟨X0, X1, X2, X3⟩ := hx Y hSw; go_simp)) (by assumption) ?_
        simp only [List.set_cons_zero, List.set_cons_succ]
        refine takeW 4 6 (.int .i64 x.a) rfl rfl (by kernel_rfl) (by kernel_rfl) (by kernel_rfl) (fun _ _ _ h => h) (by kernel_rfl) (by (intro w hSw; go_simp)) (by assumption) ?_
        simp only [List.set_cons_zero, List.set_cons_succ]
        refine takeW 5 7 (.int .i64 x.p) rfl rfl (by kernel_rfl) (by kernel_rfl) (by kernel_rfl) (fun _ _ _ h => h) (by kernel_rfl) (by (intro w hSw; go_simp)) (by assumption) ?_
        simp only [List.set_cons_zero, List.set_cons_succ]
        refine takeW 6 8 (.bool true) rfl rfl (by kernel_rfl) (by kernel_rfl) (by kernel_rfl) (fun _ _ _ h => h) (by kernel_rfl) (by (intro w hSw; go_simp)) (by assumption) ?_
        simp only [List.set_cons_zero, List.set_cons_succ]
        refine wpAnyH_done (by kernel_rfl) ?_ _
        go_wp2
        refine bodyPost_ret (results_tmp3 Try.results121 _ _ _) rfl ?_
        refine ⟨?_, bu.trans (hb0.mono bu.size)⟩
        rw [hd.out]
        unfold otherL
        rw [if_neg ng.out, if_pos nj.out]
        rfl
      have ga : (x.a == a) = true := by simp [g0]
      have gb : decide (x.a = a) = true := decide_eq_true g0
      by_cases g1 : x.p = p
      rotate_left
      · have z3 : (x.p == p) = false := by simp [g1]
        have z4 : decide (x.p = p) = false := decide_eq_false g1
        have ng : Hid (¬ (x.a = a ∧ x.p = p)) := fun h => g1 h.2
        clear g0 g1
        by_cases j0 : x.b = a
        rotate_left
        · have z1 : (x.b == a) = false := by simp [j0]
          have z2 : decide (x.b = a) = false := decide_eq_false j0
          have nj : Hid (¬ (x.b = a ∧ x.q = p)) := fun h => j0 h.1
          clear j0
          go_upto_region 3 with fail
          rw [← hu]
          clear hu c0 c1 c2 c3
          go_wp2
          go_roundw
          case rel =>
            refine ⟨k + 1, by omega, by go_num, ?_, bu, Au⟩
            unfold Hid
            rw [hd.out]
            show otherL (x :: _) a p = _
            rw [otherL, if_neg ng.out, if_neg nj.out]
          case measure => simp [intOf]; omega
        have ja : (x.b == a) = true := by simp [j0]
        have jb : decide (x.b = a) = true := decide_eq_true j0
        by_cases j1 : x.q = p
        rotate_left
        · have z3 : (x.q == p) = false := by simp [j1]
          have z4 : decide (x.q = p) = false := decide_eq_false j1
          have nj : Hid (¬ (x.b = a ∧ x.q = p)) := fun h => j1 h.2
          clear j0 j1
          go_upto_region 3 with fail
          rw [← hu]
          clear hu c0 c1 c2 c3
          go_wp2
          go_roundw
          case rel =>
            refine ⟨k + 1, by omega, by go_num, ?_, bu, Au⟩
            unfold Hid
            rw [hd.out]
            show otherL (x :: _) a p = _
            rw [otherL, if_neg ng.out, if_neg nj.out]
          case measure => simp [intOf]; omega
        have jc : (x.q == p) = true := by simp [j1]
        have jd : decide (x.q = p) = true := decide_eq_true j1
        have nj : Hid (x.b = a ∧ x.q = p) := ⟨j0, j1⟩
        clear j0 j1
        go_upto_region 8 with fail
        rw [← hu]
        clear hu c0 c1 c2 c3
        refine wp_region_held (S := fun Y => Below u.heap.size u Y) (by kernel_rfl) ?_
        change wpAnyH _ _ _ _ _ _ _ _ (World.drew _)
        have hb0 : Below u.heap.size u u.drew := (Below.refl _ _).drew
        obtain ⟨u0, hy0⟩ : ∃ y_, y_ = u.drew := ⟨_, rfl⟩
        rw [← hy0] at hb0 ⊢
        clear hy0
        refine takeW 0 47 (.pointer (some ⟨wr.heap.size, 0, none⟩)) rfl rfl (by kernel_rfl) (by kernel_rfl) (by kernel_rfl) (fun _ _ _ h => h) (by kernel_rfl) (by (intro w hSw; go_simp)) (by assumption) ?_
        simp only [List.set_cons_zero, List.set_cons_succ]
        refine takeW 1 48 (.int .i64 x.a) rfl rfl (by kernel_rfl) (by kernel_rfl) (by kernel_rfl) (fun _ _ _ h => h) (by kernel_rfl) (by (intro Y hSw; obtain ⟨X0, X1, X2, X3⟩ := hx Y hSw; go_simp)) (by assumption) ?_
        simp only [List.set_cons_zero, List.set_cons_succ]
        refine takeW 2 49 (.pointer (some ⟨wr.heap.size, 1, none⟩)) rfl rfl (by kernel_rfl) (by kernel_rfl) (by kernel_rfl) (fun _ _ _ h => h) (by kernel_rfl) (by (intro w hSw; go_simp)) (by assumption) ?_
        simp only [List.set_cons_zero, List.set_cons_succ]
        refine takeW 3 50 (.int .i64 x.p) rfl rfl (by kernel_rfl) (by kernel_rfl) (by kernel_rfl) (fun _ _ _ h => h) (by kernel_rfl) (by (intro Y hSw; obtain ⟨X0, X1, X2, X3⟩ := hx Y hSw; go_simp)) (by assumption) ?_
        simp only [List.set_cons_zero, List.set_cons_succ]
        refine takeW 4 6 (.int .i64 x.a) rfl rfl (by kernel_rfl) (by kernel_rfl) (by kernel_rfl) (fun _ _ _ h => h) (by kernel_rfl) (by (intro w hSw; go_simp)) (by assumption) ?_
        simp only [List.set_cons_zero, List.set_cons_succ]
        refine takeW 5 7 (.int .i64 x.p) rfl rfl (by kernel_rfl) (by kernel_rfl) (by kernel_rfl) (fun _ _ _ h => h) (by kernel_rfl) (by (intro w hSw; go_simp)) (by assumption) ?_
        simp only [List.set_cons_zero, List.set_cons_succ]
        refine takeW 6 8 (.bool true) rfl rfl (by kernel_rfl) (by kernel_rfl) (by kernel_rfl) (fun _ _ _ h => h) (by kernel_rfl) (by (intro w hSw; go_simp)) (by assumption) ?_
        simp only [List.set_cons_zero, List.set_cons_succ]
        refine wpAnyH_done (by kernel_rfl) ?_ _
        go_wp2
        refine bodyPost_ret (results_tmp3 Try.results121 _ _ _) rfl ?_
        refine ⟨?_, bu.trans (hb0.mono bu.size)⟩
        rw [hd.out]
        unfold otherL
        rw [if_neg ng.out, if_pos nj.out]
        rfl
      have gc : (x.p == p) = true := by simp [g1]
      have gd : decide (x.p = p) = true := decide_eq_true g1
      have ng : Hid (x.a = a ∧ x.p = p) := ⟨g0, g1⟩
      clear g0 g1
      go_upto_region 6 with fail
      rw [← hu]
      clear hu c0 c1 c2 c3
      refine wp_region_held (S := fun Y => Below u.heap.size u Y) (by kernel_rfl) ?_
      change wpAnyH _ _ _ _ _ _ _ _ (World.drew _)
      have hb0 : Below u.heap.size u u.drew := (Below.refl _ _).drew
      obtain ⟨u0, hy0⟩ : ∃ y_, y_ = u.drew := ⟨_, rfl⟩
      rw [← hy0] at hb0 ⊢
      clear hy0
      refine takeW 0 33 (.pointer (some ⟨wr.heap.size, 2, none⟩)) rfl rfl (by kernel_rfl) (by kernel_rfl) (by kernel_rfl) (fun _ _ _ h => h) (by kernel_rfl) (by (intro w hSw; go_simp)) (by assumption) ?_
      simp only [List.set_cons_zero, List.set_cons_succ]
      refine takeW 1 34 (.int .i64 x.b) rfl rfl (by kernel_rfl) (by kernel_rfl) (by kernel_rfl) (fun _ _ _ h => h) (by kernel_rfl) (by (intro Y hSw; obtain ⟨X0, X1, X2, X3⟩ := hx Y hSw; go_simp)) (by assumption) ?_
      simp only [List.set_cons_zero, List.set_cons_succ]
      refine takeW 2 35 (.pointer (some ⟨wr.heap.size, 3, none⟩)) rfl rfl (by kernel_rfl) (by kernel_rfl) (by kernel_rfl) (fun _ _ _ h => h) (by kernel_rfl) (by (intro w hSw; go_simp)) (by assumption) ?_
      simp only [List.set_cons_zero, List.set_cons_succ]
      refine takeW 3 36 (.int .i64 x.q) rfl rfl (by kernel_rfl) (by kernel_rfl) (by kernel_rfl) (fun _ _ _ h => h) (by kernel_rfl) (by (intro Y hSw; obtain ⟨X0, X1, X2, X3⟩ := hx Y hSw; go_simp)) (by assumption) ?_
      simp only [List.set_cons_zero, List.set_cons_succ]
      refine takeW 4 6 (.int .i64 x.b) rfl rfl (by kernel_rfl) (by kernel_rfl) (by kernel_rfl) (fun _ _ _ h => h) (by kernel_rfl) (by (intro w hSw; go_simp)) (by assumption) ?_
      simp only [List.set_cons_zero, List.set_cons_succ]
      refine takeW 5 7 (.int .i64 x.q) rfl rfl (by kernel_rfl) (by kernel_rfl) (by kernel_rfl) (fun _ _ _ h => h) (by kernel_rfl) (by (intro w hSw; go_simp)) (by assumption) ?_
      simp only [List.set_cons_zero, List.set_cons_succ]
      refine takeW 6 8 (.bool true) rfl rfl (by kernel_rfl) (by kernel_rfl) (by kernel_rfl) (fun _ _ _ h => h) (by kernel_rfl) (by (intro w hSw; go_simp)) (by assumption) ?_
      simp only [List.set_cons_zero, List.set_cons_succ]
      refine wpAnyH_done (by kernel_rfl) ?_ _
      go_wp2
      refine bodyPost_ret (results_tmp3 Try.results121 _ _ _) rfl ?_
      refine ⟨?_, bu.trans (hb0.mono bu.size)⟩
      rw [hd.out]
      unfold otherL
      rw [if_pos ng.out]
      rfl
    · obtain rfl : k = K.length := by omega
      have e : O = none := by rw [hd.out, List.drop_length]; rfl
      go_wp2
      refine bodyPost_ret (results_tmp3 Try.results121 _ _ _) rfl ?_
      exact ⟨by rw [e]; rfl, hb⟩

end Go.Proofs.Ytdfjfodfnildiaa
