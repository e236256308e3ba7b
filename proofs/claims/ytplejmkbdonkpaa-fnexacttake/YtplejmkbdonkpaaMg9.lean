/- write, told, walked. -/
import Derived.Test.YtplejmkbdonkpaaRows
import Derived.WalkKit
import Derived.ProofKit
import Derived.OpenShut
import Derived.ShutString
import Derived.ChangeOld
import Derived.Below
import Derived.Deep.QuietTactic
import Derived.BigQuiet
import Derived.WalkSmall
import Derived.Laws.OwnMore
import Derived.WalkSpells
import Derived.WalkLawsBesides
import Derived.Deep.Cut
import Derived.Maps.AppendAt
import Derived.Test.YtplejmkbdonkpaaMg8
import Derived.Test.YtplejmkbdonkpaaMg4
import Derived.Test.YtplejmkbdonkpaaTakes
namespace Go.Proofs.Ytplejmkbdonkpaa
open Go.ChangeShapes Go.WideShapes Go.ChangeAt Go.RowKit
open Go.ChangeMaps (open_string shut_string)
set_option linter.unusedVariables false
set_option maxRecDepth 100000

set_option maxHeartbeats 4000000 in
theorem writeI (m : Mi) (x : Ik) (q base : Nat) (ad : Option Addr) (cap : Nat) (w : World) (M : MgBox w q m (.slice ad m.lg.length cap)) (O : FOwn ikEnc 8 30 base w (.slice ad m.lg.length cap) m.lg) (hq : ∀ g, (Value.slice ad m.lg.length cap).ownBlock = some g → g ≠ q) (hl : m.lg.length ≤ 1048577) (hb : base ≤ w.heap.size) :
    Calls Try.prog 38 #[.pointer (some ⟨q, 0, none⟩), .agg #[.int .i64 x.k, .int .i64 x.q, .int .i64 x.r, .int .i64 x.c, .int .i64 x.b, .int .i64 x.p, .int .i64 x.h, .bool x.up]] w fun e w' => e = .returned (.tuple #[]) ∧ ∃ a c, MgBox w' q (noteM m x) (.slice a (noteM m x).lg.length c) ∧ FOwn ikEnc 8 30 base w' (.slice a (noteM m x).lg.length c) (noteM m x).lg ∧ (∀ g, (Value.slice a (noteM m x).lg.length c).ownBlock = some g → g ≠ q) ∧ Turned q (Value.slice ad m.lg.length cap).ownBlock w w' := by
  obtain ⟨i1, hj, hy0, hy1, hy2⟩ := info_parts ikInfo
  obtain ⟨y, hy⟩ : ∃ y, y = w.alloc (Obj.cells #[.int .i64 x.k, .int .i64 x.q, .int .i64 x.r, .int .i64 x.c, .int .i64 x.b, .int .i64 x.p, .int .i64 x.h, .bool x.up] 30) := ⟨_, rfl⟩
  have B0 : Below w.heap.size w y := by rw [hy]; exact below_new _
  have X : InAt y w.heap.size x := by rw [hy]; exact InAt.new w _ x
  have S0 := X.lt
  have lq := M.lt
  have lo : ∀ g, (Value.slice ad m.lg.length cap).ownBlock = some g → g < w.heap.size := fun g e => (O.lt g e).2
  have M := M.below B0 M.lt
  have O := O.later B0
  go_enter Try.func38, Try.ntmps38
  go_upto_region 1 with fail
  rw [← hy]
  clear hy
  refine wp_region_held (S := fun Y => InAt Y w.heap.size x) (by kernel_rfl) ?_
  change wpAnyH _ _ _ _ _ _ _ _ (World.drew _)
  have hb0 : Below y.heap.size y y.drew := (Below.refl _ _).drew
  obtain ⟨u0, hy0'⟩ : ∃ y_, y_ = y.drew := ⟨_, rfl⟩
  rw [← hy0'] at hb0 ⊢
  clear hy0'
  have hs0 : InAt u0 w.heap.size x := X.below hb0 X.lt
  have M0 := M.below hb0 M.lt
  have O0 := O.later hb0
  have z0 := hb0.size
  refine takeW 0 4 (.pointer (some ⟨q, 0, none⟩)) rfl rfl (by kernel_rfl) (by kernel_rfl) (by kernel_rfl) (fun _ _ _ h => h) (by kernel_rfl) (by (intro w hSw; go_simp)) (by assumption) ?_
  simp only [List.set_cons_zero, List.set_cons_succ]
  refine takeW 1 5 (.pointer (some ⟨q, 0, none⟩)) rfl rfl (by kernel_rfl) (by kernel_rfl) (by kernel_rfl) (fun _ _ _ h => h) (by kernel_rfl) (by (intro w hSw; go_simp)) (by assumption) ?_
  simp only [List.set_cons_zero, List.set_cons_succ]
  refine takeW 2 6 (.pointer (some ⟨q, 0, none⟩)) rfl rfl (by kernel_rfl) (by kernel_rfl) (by kernel_rfl) (fun _ _ _ h => h) (by kernel_rfl) (by (intro w hSw; go_simp)) (by assumption) ?_
  simp only [List.set_cons_zero, List.set_cons_succ]
  refine takeW 3 7 (.pointer (some ⟨q, 0, none⟩)) rfl rfl (by kernel_rfl) (by kernel_rfl) (by kernel_rfl) (fun _ _ _ h => h) (by kernel_rfl) (by (intro w hSw; go_simp)) (by assumption) ?_
  simp only [List.set_cons_zero, List.set_cons_succ]
  refine takeW 5 9 (.agg #[.int .i64 x.k, .int .i64 x.q, .int .i64 x.r, .int .i64 x.c, .int .i64 x.b, .int .i64 x.p, .int .i64 x.h, .bool x.up]) rfl rfl (by kernel_rfl) (by kernel_rfl) (by kernel_rfl) (fun _ _ _ h => h) (by kernel_rfl) (by (intro Y hSw; obtain ⟨X0, X1, X2, X3, X4, X5, X6, X7⟩ := hSw; go_simp)) (by assumption) ?_
  simp only [List.set_cons_zero, List.set_cons_succ]
  refine wpAnyH_all (rs := [4, 6]) (by kernel_rfl) (by simp) ?_
  intro i hi; rcases (by simpa using hi : i = 4 ∨ i = 6) with rfl | rfl
  · refine wpOp_step rfl (fun Kz hKz => ?_)
    rw [if_pos (by kernel_rfl)]
    have c0 := M0.c0
    go_simp
    clear c0
    refine hKz _ _ ⟨hs0, ?_⟩
    clear hKz Kz hi
    refine wpAnyH_all (rs := [6]) (by kernel_rfl) (by simp) ?_
    intro i hi; obtain rfl : i = 6 := by simpa using hi
    refine wpOp_step rfl (fun Kz hKz => ?_)
    rw [if_pos (by kernel_rfl)]
    go_simp
    obtain ⟨u1, hu1⟩ : ∃ y_, y_ = u0.alloc (Obj.cells #[.int .i64 x.k, .int .i64 x.q, .int .i64 x.r, .int .i64 x.c, .int .i64 x.b, .int .i64 x.p, .int .i64 x.h, .bool x.up] 30) := ⟨_, rfl⟩
    have V1 : FView ikEnc u1 (some ⟨u0.heap.size, 0, none⟩) [x] := by rw [hu1]; exact FView.oneK u0 _ x
    have k1 : Below u0.heap.size u0 u1 := by rw [hu1]; exact below_new _
    have hs1 := hs0.below k1 hs0.lt
    have M1 := M0.below k1 M0.lt
    have O1 := O0.later k1
    rw [← hu1]
    clear hu1
    have z1 := k1.size
    refine hKz _ _ ⟨hs1, ?_⟩
    clear hKz Kz hi
    refine wpAnyH_all (rs := [7]) (by kernel_rfl) (by simp) ?_
    intro i hi; obtain rfl : i = 7 := by simpa using hi
    refine wpOp_step rfl (fun Kz hKz => ?_)
    rw [if_pos (by kernel_rfl)]
    refine fapp ikEnc_len ikEnc_ones 11 _ _ 24 rfl rfl base 30 i1 (.agg #[.int .i64 0, .int .i64 0, .int .i64 0, .int .i64 0, .int .i64 0, .int .i64 0, .int .i64 0, .bool false]) 64 Try.underlying24 hj hy0 hy1 hy2 rfl (by decide) (by decide) (.slice ad m.lg.length cap) m.lg rfl O1 (some ⟨u0.heap.size, 0, none⟩) 1 [x] rfl (fun e => by cases e) V1 (by simp; omega) (by omega) ?_
    intro vN u2 oN gN hob
    replace oN : FOwn ikEnc 8 30 base u2 vN (noteM m x).lg := oN
    have hk2 : ∀ k, k < u1.heap.size → (∀ g, (Value.slice ad m.lg.length cap).ownBlock = some g → k ≠ g) → u2.heap[k]? = u1.heap[k]? := fun k hk he => gN.block k hk (fun e => he k e.symm rfl)
    have hs2 := hs1.keep (hk2 _ hs1.lt (fun g e => by have := lo g e; omega))
    have M2 := M1.keep (hk2 _ M1.lt (fun g e => by have := hq g e; omega))
    have hqn : ∀ g, vN.ownBlock = some g → g ≠ q := fun g e => hob.elim (fun h => by rw [h] at e; exact hq g e) (fun h => by rw [h] at e; have e2 := Option.some.inj e; omega)
    have T2 : Turned q (Value.slice ad m.lg.length cap).ownBlock w u2 := ⟨gN.os.trans (k1.os.trans (hb0.os.trans B0.os)), gN.tape.trans (k1.tape.trans (hb0.tape.trans B0.tape)), gN.output.trans (k1.output.trans (hb0.output.trans B0.output)), by have := gN.size; have := B0.size; omega, fun k hk h1 h2 => (hk2 k (by have := B0.size; omega) (fun g e e2 => h2 (by rw [e, e2]))).trans ((k1.block k (by have := B0.size; omega)).trans ((hb0.block k (by have := B0.size; omega)).trans (B0.block k hk)))⟩
    obtain ⟨aN, cN, rfl⟩ := oN.open_
    clear gN hk2 hob k1 M1 O1 V1 hs1
    simp only [List.set_cons_zero, List.set_cons_succ]
    refine hKz _ _ ⟨hs2, ?_⟩
    clear hKz Kz hi
    refine takeW 8 12 (.pointer (some ⟨q, 0, none⟩)) rfl rfl (by kernel_rfl) (by kernel_rfl) (by kernel_rfl) (fun _ _ _ h => h) (by kernel_rfl) (by (intro w hSw; go_simp)) (by assumption) ?_
    simp only [List.set_cons_zero, List.set_cons_succ]
    refine takeW 9 13 (.pointer (some ⟨q, 0, none⟩)) rfl rfl (by kernel_rfl) (by kernel_rfl) (by kernel_rfl) (fun _ _ _ h => h) (by kernel_rfl) (by (intro w hSw; go_simp)) (by assumption) ?_
    simp only [List.set_cons_zero, List.set_cons_succ]
    refine wpAnyH_all (rs := [10]) (by kernel_rfl) (by simp) ?_
    intro i hi; obtain rfl : i = 10 := by simpa using hi
    refine wpOp_step rfl (fun Kz hKz => ?_)
    rw [if_pos (by kernel_rfl)]
    have c0 := M2.c0
    have f0 := M2.fr 0
    go_simp
    clear c0 f0
    have hs3 : InAt (u2.setCell ⟨q, 0, none⟩ (.slice aN (noteM m x).lg.length cN)) w.heap.size x := hs2.keep (Below.heap_setCell _ _ _ _ (by show w.heap.size ≠ q; omega))
    have M3 : MgBox (u2.setCell ⟨q, 0, none⟩ (.slice aN (noteM m x).lg.length cN)) q (noteM m x) (.slice aN (noteM m x).lg.length cN) := (M2.log (.slice aN (noteM m x).lg.length cN)).lg (m.lg ++ [x])
    have O3 : FOwn ikEnc 8 30 base (u2.setCell ⟨q, 0, none⟩ (.slice aN (noteM m x).lg.length cN)) (.slice aN (noteM m x).lg.length cN) (noteM m x).lg := oN.keep (fun g e => Below.heap_setCell _ _ _ _ (hqn g e))
    have T3 := T2.set 0 (.slice aN (noteM m x).lg.length cN)
    refine hKz _ _ ⟨hs3, ?_⟩
    clear hKz Kz hi
    refine wpAnyH_done (by kernel_rfl) ?_ _
    go_wp2
    go_end0
    exact ⟨rfl, aN, cN, M3, O3, hqn, T3⟩
  · refine wpOp_step rfl (fun Kz hKz => ?_)
    rw [if_pos (by kernel_rfl)]
    go_simp
    obtain ⟨u1, hu1⟩ : ∃ y_, y_ = u0.alloc (Obj.cells #[.int .i64 x.k, .int .i64 x.q, .int .i64 x.r, .int .i64 x.c, .int .i64 x.b, .int .i64 x.p, .int .i64 x.h, .bool x.up] 30) := ⟨_, rfl⟩
    have V1 : FView ikEnc u1 (some ⟨u0.heap.size, 0, none⟩) [x] := by rw [hu1]; exact FView.oneK u0 _ x
    have k1 : Below u0.heap.size u0 u1 := by rw [hu1]; exact below_new _
    have hs1 := hs0.below k1 hs0.lt
    have M1 := M0.below k1 M0.lt
    have O1 := O0.later k1
    rw [← hu1]
    clear hu1
    have z1 := k1.size
    refine hKz _ _ ⟨hs1, ?_⟩
    clear hKz Kz hi
    refine wpAnyH_all (rs := [4]) (by kernel_rfl) (by simp) ?_
    intro i hi; obtain rfl : i = 4 := by simpa using hi
    refine wpOp_step rfl (fun Kz hKz => ?_)
    rw [if_pos (by kernel_rfl)]
    have c0 := M1.c0
    go_simp
    clear c0
    refine hKz _ _ ⟨hs1, ?_⟩
    clear hKz Kz hi
    refine wpAnyH_all (rs := [7]) (by kernel_rfl) (by simp) ?_
    intro i hi; obtain rfl : i = 7 := by simpa using hi
    refine wpOp_step rfl (fun Kz hKz => ?_)
    rw [if_pos (by kernel_rfl)]
    refine fapp ikEnc_len ikEnc_ones 11 _ _ 24 rfl rfl base 30 i1 (.agg #[.int .i64 0, .int .i64 0, .int .i64 0, .int .i64 0, .int .i64 0, .int .i64 0, .int .i64 0, .bool false]) 64 Try.underlying24 hj hy0 hy1 hy2 rfl (by decide) (by decide) (.slice ad m.lg.length cap) m.lg rfl O1 (some ⟨u0.heap.size, 0, none⟩) 1 [x] rfl (fun e => by cases e) V1 (by simp; omega) (by omega) ?_
    intro vN u2 oN gN hob
    replace oN : FOwn ikEnc 8 30 base u2 vN (noteM m x).lg := oN
    have hk2 : ∀ k, k < u1.heap.size → (∀ g, (Value.slice ad m.lg.length cap).ownBlock = some g → k ≠ g) → u2.heap[k]? = u1.heap[k]? := fun k hk he => gN.block k hk (fun e => he k e.symm rfl)
    have hs2 := hs1.keep (hk2 _ hs1.lt (fun g e => by have := lo g e; omega))
    have M2 := M1.keep (hk2 _ M1.lt (fun g e => by have := hq g e; omega))
    have hqn : ∀ g, vN.ownBlock = some g → g ≠ q := fun g e => hob.elim (fun h => by rw [h] at e; exact hq g e) (fun h => by rw [h] at e; have e2 := Option.some.inj e; omega)
    have T2 : Turned q (Value.slice ad m.lg.length cap).ownBlock w u2 := ⟨gN.os.trans (k1.os.trans (hb0.os.trans B0.os)), gN.tape.trans (k1.tape.trans (hb0.tape.trans B0.tape)), gN.output.trans (k1.output.trans (hb0.output.trans B0.output)), by have := gN.size; have := B0.size; omega, fun k hk h1 h2 => (hk2 k (by have := B0.size; omega) (fun g e e2 => h2 (by rw [e, e2]))).trans ((k1.block k (by have := B0.size; omega)).trans ((hb0.block k (by have := B0.size; omega)).trans (B0.block k hk)))⟩
    obtain ⟨aN, cN, rfl⟩ := oN.open_
    clear gN hk2 hob k1 M1 O1 V1 hs1
    simp only [List.set_cons_zero, List.set_cons_succ]
    refine hKz _ _ ⟨hs2, ?_⟩
    clear hKz Kz hi
    refine takeW 8 12 (.pointer (some ⟨q, 0, none⟩)) rfl rfl (by kernel_rfl) (by kernel_rfl) (by kernel_rfl) (fun _ _ _ h => h) (by kernel_rfl) (by (intro w hSw; go_simp)) (by assumption) ?_
    simp only [List.set_cons_zero, List.set_cons_succ]
    refine takeW 9 13 (.pointer (some ⟨q, 0, none⟩)) rfl rfl (by kernel_rfl) (by kernel_rfl) (by kernel_rfl) (fun _ _ _ h => h) (by kernel_rfl) (by (intro w hSw; go_simp)) (by assumption) ?_
    simp only [List.set_cons_zero, List.set_cons_succ]
    refine wpAnyH_all (rs := [10]) (by kernel_rfl) (by simp) ?_
    intro i hi; obtain rfl : i = 10 := by simpa using hi
    refine wpOp_step rfl (fun Kz hKz => ?_)
    rw [if_pos (by kernel_rfl)]
    have c0 := M2.c0
    have f0 := M2.fr 0
    go_simp
    clear c0 f0
    have hs3 : InAt (u2.setCell ⟨q, 0, none⟩ (.slice aN (noteM m x).lg.length cN)) w.heap.size x := hs2.keep (Below.heap_setCell _ _ _ _ (by show w.heap.size ≠ q; omega))
    have M3 : MgBox (u2.setCell ⟨q, 0, none⟩ (.slice aN (noteM m x).lg.length cN)) q (noteM m x) (.slice aN (noteM m x).lg.length cN) := (M2.log (.slice aN (noteM m x).lg.length cN)).lg (m.lg ++ [x])
    have O3 : FOwn ikEnc 8 30 base (u2.setCell ⟨q, 0, none⟩ (.slice aN (noteM m x).lg.length cN)) (.slice aN (noteM m x).lg.length cN) (noteM m x).lg := oN.keep (fun g e => Below.heap_setCell _ _ _ _ (hqn g e))
    have T3 := T2.set 0 (.slice aN (noteM m x).lg.length cN)
    refine hKz _ _ ⟨hs3, ?_⟩
    clear hKz Kz hi
    refine wpAnyH_done (by kernel_rfl) ?_ _
    go_wp2
    go_end0
    exact ⟨rfl, aN, cN, M3, O3, hqn, T3⟩
set_option maxHeartbeats 4000000 in
theorem toldI12 (m : Mi) (q : Nat) (ad : Option Addr) (cap : Nat) (w : World) (M : MgBox w q m (.slice ad m.lg.length cap)) :
    Calls Try.prog 39 #[.pointer (some ⟨q, 0, none⟩)] w fun e w' => e = .returned (.agg #[.bool m.up, .int .i64 m.li, .int .i64 m.ep, .slice ad m.lg.length cap, .int .i64 m.sd, .int .i64 m.ac, .int .i64 m.al]) ∧ Below w.heap.size w w' := by
  obtain ⟨y, hy⟩ : ∃ y, y = w.alloc (Obj.cells #[.bool false, .int .i64 0, .int .i64 0, .slice none 0 0, .int .i64 0, .int .i64 0, .int .i64 0] 26) := ⟨_, rfl⟩
  have B0 : Below w.heap.size w y := by rw [hy]; exact below_new _
  have A1 : MiBox y w.heap.size ⟨false, 0, 0, [], 0, 0, 0⟩ (.slice none 0 0) := by rw [hy]; constructor <;> simp [go_sem]
  have S0 := A1.lt
  have lq := M.lt
  have M := M.below B0 M.lt
  go_enter Try.func39, Try.ntmps39
  go_upto_region 1 with fail
  rw [← hy]
  clear hy
  refine wp_region_held (S := fun Y => Below w.heap.size y Y) (by kernel_rfl) ?_
  change wpAnyH _ _ _ _ _ _ _ _ (World.drew _)
  have hb0 : Below y.heap.size y y.drew := (Below.refl _ _).drew
  obtain ⟨u0, hy0'⟩ : ∃ y_, y_ = y.drew := ⟨_, rfl⟩
  rw [← hy0'] at hb0 ⊢
  clear hy0'
  have hc0 : Below w.heap.size y u0 := hb0.mono (by omega)
  refine takeW 0 3 (.pointer (some ⟨q, 0, none⟩)) rfl rfl (by kernel_rfl) (by kernel_rfl) (by kernel_rfl) (fun _ _ _ h => h) (by kernel_rfl) (by (intro w hSw; go_simp)) (by assumption) ?_
  simp only [List.set_cons_zero, List.set_cons_succ]
  refine takeW 1 4 (.pointer (some ⟨q, 0, none⟩)) rfl rfl (by kernel_rfl) (by kernel_rfl) (by kernel_rfl) (fun _ _ _ h => h) (by kernel_rfl) (by (intro w hSw; go_simp)) (by assumption) ?_
  simp only [List.set_cons_zero, List.set_cons_succ]
  refine takeW 2 5 (.pointer (some ⟨q, 1, none⟩)) rfl rfl (by kernel_rfl) (by kernel_rfl) (by kernel_rfl) (fun _ _ _ h => h) (by kernel_rfl) (by (intro w hSw; go_simp)) (by assumption) ?_
  simp only [List.set_cons_zero, List.set_cons_succ]
  refine takeW 3 6 (.pointer (some ⟨q, 1, none⟩)) rfl rfl (by kernel_rfl) (by kernel_rfl) (by kernel_rfl) (fun _ _ _ h => h) (by kernel_rfl) (by (intro w hSw; go_simp)) (by assumption) ?_
  simp only [List.set_cons_zero, List.set_cons_succ]
  refine takeW 4 7 (.bool m.up) rfl rfl (by kernel_rfl) (by kernel_rfl) (by kernel_rfl) (fun _ _ _ h => h) (by kernel_rfl) (by (intro Y hSw; obtain ⟨X0, X1, X2, X3, X4, X5, X6, XF⟩ := M.below hSw lq; go_simp)) (by assumption) ?_
  simp only [List.set_cons_zero, List.set_cons_succ]
  refine takeW 5 8 (.pointer (some ⟨q, 0, none⟩)) rfl rfl (by kernel_rfl) (by kernel_rfl) (by kernel_rfl) (fun _ _ _ h => h) (by kernel_rfl) (by (intro w hSw; go_simp)) (by assumption) ?_
  simp only [List.set_cons_zero, List.set_cons_succ]
  refine takeW 6 9 (.pointer (some ⟨q, 0, none⟩)) rfl rfl (by kernel_rfl) (by kernel_rfl) (by kernel_rfl) (fun _ _ _ h => h) (by kernel_rfl) (by (intro w hSw; go_simp)) (by assumption) ?_
  simp only [List.set_cons_zero, List.set_cons_succ]
  refine takeW 7 10 (.pointer (some ⟨q, 1, none⟩)) rfl rfl (by kernel_rfl) (by kernel_rfl) (by kernel_rfl) (fun _ _ _ h => h) (by kernel_rfl) (by (intro w hSw; go_simp)) (by assumption) ?_
  simp only [List.set_cons_zero, List.set_cons_succ]
  refine takeW 8 11 (.pointer (some ⟨q, 2, none⟩)) rfl rfl (by kernel_rfl) (by kernel_rfl) (by kernel_rfl) (fun _ _ _ h => h) (by kernel_rfl) (by (intro w hSw; go_simp)) (by assumption) ?_
  simp only [List.set_cons_zero, List.set_cons_succ]
  refine takeW 9 12 (.int .i64 m.li) rfl rfl (by kernel_rfl) (by kernel_rfl) (by kernel_rfl) (fun _ _ _ h => h) (by kernel_rfl) (by (intro Y hSw; obtain ⟨X0, X1, X2, X3, X4, X5, X6, XF⟩ := M.below hSw lq; go_simp)) (by assumption) ?_
  simp only [List.set_cons_zero, List.set_cons_succ]
  refine takeW 10 13 (.pointer (some ⟨q, 0, none⟩)) rfl rfl (by kernel_rfl) (by kernel_rfl) (by kernel_rfl) (fun _ _ _ h => h) (by kernel_rfl) (by (intro w hSw; go_simp)) (by assumption) ?_
  simp only [List.set_cons_zero, List.set_cons_succ]
  refine takeW 11 14 (.pointer (some ⟨q, 0, none⟩)) rfl rfl (by kernel_rfl) (by kernel_rfl) (by kernel_rfl) (fun _ _ _ h => h) (by kernel_rfl) (by (intro w hSw; go_simp)) (by assumption) ?_
  simp only [List.set_cons_zero, List.set_cons_succ]
  refine takeW 12 15 (.pointer (some ⟨q, 1, none⟩)) rfl rfl (by kernel_rfl) (by kernel_rfl) (by kernel_rfl) (fun _ _ _ h => h) (by kernel_rfl) (by (intro w hSw; go_simp)) (by assumption) ?_
  simp only [List.set_cons_zero, List.set_cons_succ]
  refine takeW 13 16 (.pointer (some ⟨q, 3, none⟩)) rfl rfl (by kernel_rfl) (by kernel_rfl) (by kernel_rfl) (fun _ _ _ h => h) (by kernel_rfl) (by (intro w hSw; go_simp)) (by assumption) ?_
  simp only [List.set_cons_zero, List.set_cons_succ]
  refine takeW 14 17 (.int .i64 m.ep) rfl rfl (by kernel_rfl) (by kernel_rfl) (by kernel_rfl) (fun _ _ _ h => h) (by kernel_rfl) (by (intro Y hSw; obtain ⟨X0, X1, X2, X3, X4, X5, X6, XF⟩ := M.below hSw lq; go_simp)) (by assumption) ?_
  simp only [List.set_cons_zero, List.set_cons_succ]
  refine takeW 15 18 (.pointer (some ⟨q, 0, none⟩)) rfl rfl (by kernel_rfl) (by kernel_rfl) (by kernel_rfl) (fun _ _ _ h => h) (by kernel_rfl) (by (intro w hSw; go_simp)) (by assumption) ?_
  simp only [List.set_cons_zero, List.set_cons_succ]
  refine takeW 16 19 (.pointer (some ⟨q, 0, none⟩)) rfl rfl (by kernel_rfl) (by kernel_rfl) (by kernel_rfl) (fun _ _ _ h => h) (by kernel_rfl) (by (intro w hSw; go_simp)) (by assumption) ?_
  simp only [List.set_cons_zero, List.set_cons_succ]
  refine takeW 17 20 (.pointer (some ⟨q, 0, none⟩)) rfl rfl (by kernel_rfl) (by kernel_rfl) (by kernel_rfl) (fun _ _ _ h => h) (by kernel_rfl) (by (intro w hSw; go_simp)) (by assumption) ?_
  simp only [List.set_cons_zero, List.set_cons_succ]
  refine takeW 18 21 (.pointer (some ⟨q, 0, none⟩)) rfl rfl (by kernel_rfl) (by kernel_rfl) (by kernel_rfl) (fun _ _ _ h => h) (by kernel_rfl) (by (intro w hSw; go_simp)) (by assumption) ?_
  simp only [List.set_cons_zero, List.set_cons_succ]
  refine takeW 19 22 (.slice ad m.lg.length cap) rfl rfl (by kernel_rfl) (by kernel_rfl) (by kernel_rfl) (fun _ _ _ h => h) (by kernel_rfl) (by (intro Y hSw; obtain ⟨X0, X1, X2, X3, X4, X5, X6, XF⟩ := M.below hSw lq; go_simp)) (by assumption) ?_
  simp only [List.set_cons_zero, List.set_cons_succ]
  refine takeW 20 23 (.pointer (some ⟨q, 0, none⟩)) rfl rfl (by kernel_rfl) (by kernel_rfl) (by kernel_rfl) (fun _ _ _ h => h) (by kernel_rfl) (by (intro w hSw; go_simp)) (by assumption) ?_
  simp only [List.set_cons_zero, List.set_cons_succ]
  refine takeW 21 24 (.pointer (some ⟨q, 0, none⟩)) rfl rfl (by kernel_rfl) (by kernel_rfl) (by kernel_rfl) (fun _ _ _ h => h) (by kernel_rfl) (by (intro w hSw; go_simp)) (by assumption) ?_
  simp only [List.set_cons_zero, List.set_cons_succ]
  refine takeW 22 25 (.pointer (some ⟨q, 1, none⟩)) rfl rfl (by kernel_rfl) (by kernel_rfl) (by kernel_rfl) (fun _ _ _ h => h) (by kernel_rfl) (by (intro w hSw; go_simp)) (by assumption) ?_
  simp only [List.set_cons_zero, List.set_cons_succ]
  refine takeW 23 26 (.pointer (some ⟨q, 4, none⟩)) rfl rfl (by kernel_rfl) (by kernel_rfl) (by kernel_rfl) (fun _ _ _ h => h) (by kernel_rfl) (by (intro w hSw; go_simp)) (by assumption) ?_
  simp only [List.set_cons_zero, List.set_cons_succ]
  refine takeW 24 27 (.int .i64 m.sd) rfl rfl (by kernel_rfl) (by kernel_rfl) (by kernel_rfl) (fun _ _ _ h => h) (by kernel_rfl) (by (intro Y hSw; obtain ⟨X0, X1, X2, X3, X4, X5, X6, XF⟩ := M.below hSw lq; go_simp)) (by assumption) ?_
  simp only [List.set_cons_zero, List.set_cons_succ]
  refine takeW 25 28 (.pointer (some ⟨q, 0, none⟩)) rfl rfl (by kernel_rfl) (by kernel_rfl) (by kernel_rfl) (fun _ _ _ h => h) (by kernel_rfl) (by (intro w hSw; go_simp)) (by assumption) ?_
  simp only [List.set_cons_zero, List.set_cons_succ]
  refine takeW 26 29 (.pointer (some ⟨q, 0, none⟩)) rfl rfl (by kernel_rfl) (by kernel_rfl) (by kernel_rfl) (fun _ _ _ h => h) (by kernel_rfl) (by (intro w hSw; go_simp)) (by assumption) ?_
  simp only [List.set_cons_zero, List.set_cons_succ]
  refine takeW 27 30 (.pointer (some ⟨q, 1, none⟩)) rfl rfl (by kernel_rfl) (by kernel_rfl) (by kernel_rfl) (fun _ _ _ h => h) (by kernel_rfl) (by (intro w hSw; go_simp)) (by assumption) ?_
  simp only [List.set_cons_zero, List.set_cons_succ]
  refine takeW 28 31 (.pointer (some ⟨q, 5, none⟩)) rfl rfl (by kernel_rfl) (by kernel_rfl) (by kernel_rfl) (fun _ _ _ h => h) (by kernel_rfl) (by (intro w hSw; go_simp)) (by assumption) ?_
  simp only [List.set_cons_zero, List.set_cons_succ]
  refine takeW 29 32 (.int .i64 m.ac) rfl rfl (by kernel_rfl) (by kernel_rfl) (by kernel_rfl) (fun _ _ _ h => h) (by kernel_rfl) (by (intro Y hSw; obtain ⟨X0, X1, X2, X3, X4, X5, X6, XF⟩ := M.below hSw lq; go_simp)) (by assumption) ?_
  simp only [List.set_cons_zero, List.set_cons_succ]
  refine takeW 30 33 (.pointer (some ⟨q, 0, none⟩)) rfl rfl (by kernel_rfl) (by kernel_rfl) (by kernel_rfl) (fun _ _ _ h => h) (by kernel_rfl) (by (intro w hSw; go_simp)) (by assumption) ?_
  simp only [List.set_cons_zero, List.set_cons_succ]
  refine takeW 31 34 (.pointer (some ⟨q, 0, none⟩)) rfl rfl (by kernel_rfl) (by kernel_rfl) (by kernel_rfl) (fun _ _ _ h => h) (by kernel_rfl) (by (intro w hSw; go_simp)) (by assumption) ?_
  simp only [List.set_cons_zero, List.set_cons_succ]
  refine takeW 32 35 (.pointer (some ⟨q, 1, none⟩)) rfl rfl (by kernel_rfl) (by kernel_rfl) (by kernel_rfl) (fun _ _ _ h => h) (by kernel_rfl) (by (intro w hSw; go_simp)) (by assumption) ?_
  simp only [List.set_cons_zero, List.set_cons_succ]
  refine takeW 33 36 (.pointer (some ⟨q, 6, none⟩)) rfl rfl (by kernel_rfl) (by kernel_rfl) (by kernel_rfl) (fun _ _ _ h => h) (by kernel_rfl) (by (intro w hSw; go_simp)) (by assumption) ?_
  simp only [List.set_cons_zero, List.set_cons_succ]
  refine takeW 34 37 (.int .i64 m.al) rfl rfl (by kernel_rfl) (by kernel_rfl) (by kernel_rfl) (fun _ _ _ h => h) (by kernel_rfl) (by (intro Y hSw; obtain ⟨X0, X1, X2, X3, X4, X5, X6, XF⟩ := M.below hSw lq; go_simp)) (by assumption) ?_
  simp only [List.set_cons_zero, List.set_cons_succ]
  refine takeW 35 38 (.agg #[.bool m.up, .int .i64 m.li, .int .i64 m.ep, .slice ad m.lg.length cap, .int .i64 m.sd, .int .i64 m.ac, .int .i64 m.al]) rfl rfl (by kernel_rfl) (by kernel_rfl) (by kernel_rfl) (fun _ _ _ h => h) (by kernel_rfl) (by (intro w hSw; go_simp)) (by assumption) ?_
  simp only [List.set_cons_zero, List.set_cons_succ]
  refine wpAnyH_all (rs := [36]) (by kernel_rfl) (by simp) ?_
  intro i hi; obtain rfl : i = 36 := by simpa using hi
  refine wpOp_step rfl (fun Kz hKz => ?_)
  rw [if_pos (by kernel_rfl)]
  have A2 := A1.below hb0 A1.lt
  have cc := A2
  obtain ⟨z0, z1, z2, z3, z4, z5, z6, zf⟩ := cc
  have g0 := zf 0
  have g1 := zf 1
  have g2 := zf 2
  have g3 := zf 3
  have g4 := zf 4
  have g5 := zf 5
  have g6 := zf 6
  go_simp
  clear z0 z1 z2 z3 z4 z5 z6 zf g0 g1 g2 g3 g4 g5 g6
  have A3 := A2.put m (.slice ad m.lg.length cap)
  have hc1 := below_put7 (q := w.heap.size) m (.slice ad m.lg.length cap) hc0 (Nat.le_refl _)
  obtain ⟨u1, hu1⟩ : ∃ y_, y_ = (((((((u0.setCell ⟨w.heap.size, 0, none⟩ (.bool m.up)).setCell ⟨w.heap.size, 1, none⟩ (.int .i64 m.li)).setCell ⟨w.heap.size, 2, none⟩ (.int .i64 m.ep)).setCell ⟨w.heap.size, 3, none⟩ (.slice ad m.lg.length cap)).setCell ⟨w.heap.size, 4, none⟩ (.int .i64 m.sd)).setCell ⟨w.heap.size, 5, none⟩ (.int .i64 m.ac)).setCell ⟨w.heap.size, 6, none⟩ (.int .i64 m.al)) := ⟨_, rfl⟩
  rw [← hu1] at A3 hc1 ⊢
  clear hu1
  refine hKz _ _ ⟨hc1, ?_⟩
  clear hKz Kz hi
  refine wpAnyH_done (by kernel_rfl) ?_ _
  have B9 := B0.trans hc1
  obtain ⟨z0, z1, z2, z3, z4, z5, z6, zf⟩ := A3
  clear zf
  go_wp2
  refine bodyPost_ret (v := .agg #[.bool m.up, .int .i64 m.li, .int .i64 m.ep, .slice ad m.lg.length cap, .int .i64 m.sd, .int .i64 m.ac, .int .i64 m.al]) (by simp [results, Try.results39, go_sem, *]) rfl ⟨rfl, B9⟩

end Go.Proofs.Ytplejmkbdonkpaa
