/- impl.numbersOf, walked. -/
import Derived.Test.YtlnogijlfompoaaDoorRows
import Derived.WalkKit
import Derived.ProofKit
import Derived.OpenShut
import Derived.ShutString
import Derived.ChangeOld
import Derived.Below
import Derived.Deep.QuietTactic
import Derived.BigQuiet
import Derived.WalkSmall
import Derived.Laws.OwnMore
import Derived.WalkSpells
import Derived.WalkLawsBesides
import Derived.Deep.Cut
import Derived.Maps.AppendAt
import Derived.Test.YtlnogijlfompoaaDoorInMath
import Derived.Test.YtlnogijlfompoaaDoorFlatApp
import Derived.Test.YtlnogijlfompoaaDoorTakes
namespace Go.Proofs.YtlnogijlfompoaaDoor
open Go.ChangeShapes Go.WideShapes Go.ChangeAt Go.RowKit
open Go.ChangeMaps (open_string shut_string)
set_option linter.unusedVariables false
set_option maxRecDepth 100000

def iEnc (x : Int) : List Value := [.int .i64 x]
theorem iEnc_len (x : Int) : (iEnc x).length = 1 := rfl
theorem iEnc_ones (L : List Int) : ∀ u ∈ fcells iEnc L, u.oneCell' = true := by
  induction L with
  | nil => intro u h; cases h
  | cons x L ih =>
    intro u h
    simp only [fcells, iEnc, List.mem_append, List.mem_cons, List.not_mem_nil, or_false] at h
    rcases h with rfl | h
    · rfl
    · exact ih u h
theorem iCells (L : List Int) : fcells iEnc L = L.map (Value.int .i64) := by
  induction L with
  | nil => rfl
  | cons x L ih => simp only [fcells, iEnc, List.map_cons, ih, List.cons_append, List.nil_append]
theorem iInfo : (Tryd.prog.info? 3).map (fun i => (i.zero, i.size, i.bytes)) = some (some (.int .i64 0), 1, 8) := by kernel_rfl
/-- A literal list of numbers. -/
theorem iOwn_lit (w : World) (L : List Int) (hl : L.length ≤ 1000) : FOwn iEnc 1 3 w.heap.size (w.alloc (Obj.cells (L.map (Value.int .i64)).toArray 3)) (.slice (some ⟨w.heap.size, 0, none⟩) L.length L.length) L := by
  unfold FOwn
  rw [iCells]
  exact ⟨by simp, .inr ⟨w.heap.size, L.length, (L.map (Value.int .i64)).toArray, rfl, Nat.le_refl _, heap_newF w _, Nat.le_refl _, (by unfold maxLen; omega), by simp, by rw [Nat.mul_one, List.take_of_length_le (by simp)]⟩⟩
theorem iView_lit (w : World) (L : List Int) (hl : L.length ≤ 1000) : FView iEnc (w.alloc (Obj.cells (L.map (Value.int .i64)).toArray 3)) (some ⟨w.heap.size, 0, none⟩) L := (iOwn_lit w L hl).view.2
theorem oneIfI (o : Bool) (m : Int) (hm : (if o = true then (1 : Int) else 0) = m) (w : World) : Calls Tryd.prog 56 #[.bool o] w fun e w' => e = .returned (.int .i64 m) ∧ w' = w := by
  cases o <;> (simp at hm; subst hm)
  · go_enter Tryd.func56, Tryd.ntmps56
    go_wp2
    go_ret
    exact ⟨rfl, rfl⟩
  · go_enter Tryd.func56, Tryd.ntmps56
    go_wp2
    go_ret
    exact ⟨rfl, rfl⟩
set_option maxHeartbeats 4000000 in
theorem numsI (x : Ik) (w : World) : Calls Tryd.prog 39 #[.agg #[.int .i64 x.k, .int .i64 x.q, .int .i64 x.r, .int .i64 x.c, .int .i64 x.b, .int .i64 x.p, .int .i64 x.h, .bool x.up]] w fun e w' => ∃ ad cap, e = .returned (.slice ad (inN x).length cap) ∧ FOwn iEnc 1 3 w.heap.size w' (.slice ad (inN x).length cap) (inN x) ∧ Below w.heap.size w w' := by
  obtain ⟨i0, hi, hz0, hz1, hz2⟩ := info_parts iInfo
  obtain ⟨k, q, r, c, b, p, h, up⟩ := x
  dsimp only
  by_cases h1 : k = 1
  · subst h1
    rw [show inN ⟨1, q, r, c, b, p, h, up⟩ = [1, q, r, c, b, p, h] from rfl]
    obtain ⟨y, hy⟩ : ∃ y, y = w.alloc (Obj.cells #[.int .i64 1, .int .i64 q, .int .i64 r, .int .i64 c, .int .i64 b, .int .i64 p, .int .i64 h, .bool up] 26) := ⟨_, rfl⟩
    have A0 : InAt y w.heap.size ⟨1, q, r, c, b, p, h, up⟩ := by rw [hy]; exact InAt.new w _ ⟨1, q, r, c, b, p, h, up⟩
    have B0 : Below w.heap.size w y := by rw [hy]; exact below_new _
    have E0 : w.heap.size < y.heap.size := A0.lt
    obtain ⟨u1, hu1⟩ : ∃ y_, y_ = y.alloc (Obj.cells #[.int .i64 1, .int .i64 q] 3) := ⟨_, rfl⟩
    have o1 : FOwn iEnc 1 3 y.heap.size u1 (.slice (some ⟨y.heap.size, 0, none⟩) 2 2) [1, q] := by rw [hu1]; exact iOwn_lit y [1, q] (by simp)
    have k1 : Below y.heap.size y u1 := by rw [hu1]; exact below_new _
    have o1 := o1.base (base' := w.heap.size) B0.size
    have B1 := B0.trans (k1.mono B0.size)
    have t1 : y.heap.size < u1.heap.size := by rw [hu1]; exact size_box y _
    have A1 := A0.below k1 E0
    obtain ⟨x0, x1, x2, x3, x4, x5, x6, x7⟩ := A0
    go_enter Tryd.func39, Tryd.ntmps39
    go_upto_region 1 with fail
    rw [← hy]
    clear hy
    go_upto_region 2 with fail
    rw [← hu1]
    clear hu1 x0 x1 x2 x3 x4 x5 x6 x7
    obtain ⟨a0, a1, a2, a3, a4, a5, a6, a7⟩ := A1
    obtain ⟨u2, hu2⟩ : ∃ y_, y_ = u1.alloc (Obj.cells #[.int .i64 r, .int .i64 c, .int .i64 b, .int .i64 p, .int .i64 h] 3) := ⟨_, rfl⟩
    have V1 : FView iEnc u2 (some ⟨u1.heap.size, 0, none⟩) [r, c, b, p, h] := by rw [hu2]; exact iView_lit u1 [r, c, b, p, h] (by simp)
    have k2 : Below u1.heap.size u1 u2 := by rw [hu2]; exact below_new _
    have o2 := o1.later k2
    have B2 := B1.trans (k2.mono B1.size)
    have z1 := B2.size
    go_wp2_with (first | (at_builtin; refine fappL iEnc_len iEnc_ones rfl _ _ 70 rfl w.heap.size 3 i0 (.int .i64 0) 8 Tryd.underlying70 hi hz0 hz1 hz2 rfl (by decide) (by decide) (.slice (some ⟨y.heap.size, 0, none⟩) 2 2) [1, q] rfl ?z10 (some ⟨u1.heap.size, 0, none⟩) 5 [r, c, b, p, h] rfl (fun e => by cases e) ?z11 ?z12 ?z13 ?_))
    case z10 => rw [← hu2]; exact o2
    case z11 => rw [← hu2]; exact V1
    try case z12 => simp
    case z13 => have := B1.size; first | omega | (simp; omega)
    rw [← hu2]
    clear hu2
    intro vZ wZ oZ gZ _
    obtain ⟨aZ, cZ, rfl⟩ := oZ.open_
    have BZ : Below w.heap.size w wZ := B2.grown gZ z1 (fun g e => (o2.lt g e).1)
    go_wp2
    go_ret
    exact ⟨aZ, cZ, rfl, oZ, BZ⟩
  have d1 : (k == 1) = false := by simpa using h1
  by_cases h3 : k = 3
  · subst h3
    rw [show inN ⟨3, q, r, c, b, p, h, up⟩ = [3, q, if up then 1 else 0] from rfl]
    obtain ⟨m, hm⟩ : ∃ m : Int, (if up = true then (1 : Int) else 0) = m := ⟨_, rfl⟩
    rw [hm]
    replace hm : Hid _ := hm
    obtain ⟨y, hy⟩ : ∃ y, y = w.alloc (Obj.cells #[.int .i64 3, .int .i64 q, .int .i64 r, .int .i64 c, .int .i64 b, .int .i64 p, .int .i64 h, .bool up] 26) := ⟨_, rfl⟩
    have A0 : InAt y w.heap.size ⟨3, q, r, c, b, p, h, up⟩ := by rw [hy]; exact InAt.new w _ ⟨3, q, r, c, b, p, h, up⟩
    have B0 : Below w.heap.size w y := by rw [hy]; exact below_new _
    have E0 : w.heap.size < y.heap.size := A0.lt
    obtain ⟨u1, hu1⟩ : ∃ y_, y_ = y.alloc (Obj.cells #[.int .i64 3, .int .i64 q] 3) := ⟨_, rfl⟩
    have o1 : FOwn iEnc 1 3 y.heap.size u1 (.slice (some ⟨y.heap.size, 0, none⟩) 2 2) [3, q] := by rw [hu1]; exact iOwn_lit y [3, q] (by simp)
    have k1 : Below y.heap.size y u1 := by rw [hu1]; exact below_new _
    have o1 := o1.base (base' := w.heap.size) B0.size
    have B1 := B0.trans (k1.mono B0.size)
    have t1 : y.heap.size < u1.heap.size := by rw [hu1]; exact size_box y _
    have A1 := A0.below k1 E0
    obtain ⟨x0, x1, x2, x3, x4, x5, x6, x7⟩ := A0
    go_enter Tryd.func39, Tryd.ntmps39
    go_upto_region 1 with fail
    rw [← hy]
    clear hy
    go_upto_region 2 with fail
    rw [← hu1]
    clear hu1 x0 x1 x2 x3 x4 x5 x6 x7
    obtain ⟨a0, a1, a2, a3, a4, a5, a6, a7⟩ := A1
    obtain ⟨u2, hu2⟩ : ∃ y_, y_ = u1.alloc (Obj.cells #[.int .i64 m] 3) := ⟨_, rfl⟩
    have V1 : FView iEnc u2 (some ⟨u1.heap.size, 0, none⟩) [m] := by rw [hu2]; exact iView_lit u1 [m] (by simp)
    have k2 : Below u1.heap.size u1 u2 := by rw [hu2]; exact below_new _
    have o2 := o1.later k2
    have B2 := B1.trans (k2.mono B1.size)
    have z1 := B2.size
    go_wp2_with fail
    go_at_call 56
    refine (oneIfI up m hm.out _).mono ?_
    rintro e v1 ⟨rfl, hv1⟩
    rw [hv1]
    clear hv1 v1
    go_wp2_with (first | (at_builtin; refine fappL iEnc_len iEnc_ones rfl _ _ 70 rfl w.heap.size 3 i0 (.int .i64 0) 8 Tryd.underlying70 hi hz0 hz1 hz2 rfl (by decide) (by decide) (.slice (some ⟨y.heap.size, 0, none⟩) 2 2) [3, q] rfl ?z30 (some ⟨u1.heap.size, 0, none⟩) 1 [m] rfl (fun e => by cases e) ?z31 ?z32 ?z33 ?_))
    case z30 => rw [← hu2]; exact o2
    case z31 => rw [← hu2]; exact V1
    try case z32 => simp
    case z33 => have := B1.size; first | omega | (simp; omega)
    rw [← hu2]
    clear hu2
    intro vZ wZ oZ gZ _
    obtain ⟨aZ, cZ, rfl⟩ := oZ.open_
    have BZ : Below w.heap.size w wZ := B2.grown gZ z1 (fun g e => (o2.lt g e).1)
    go_wp2
    go_ret
    exact ⟨aZ, cZ, rfl, oZ, BZ⟩
  have d3 : (k == 3) = false := by simpa using h3
  have e : inN ⟨k, q, r, c, b, p, h, up⟩ = [k, q] := by unfold inN; rw [if_neg h1, if_neg h3]
  rw [e]
  clear e h1 h3
  obtain ⟨y, hy⟩ : ∃ y, y = w.alloc (Obj.cells #[.int .i64 k, .int .i64 q, .int .i64 r, .int .i64 c, .int .i64 b, .int .i64 p, .int .i64 h, .bool up] 26) := ⟨_, rfl⟩
  have A0 : InAt y w.heap.size ⟨k, q, r, c, b, p, h, up⟩ := by rw [hy]; exact InAt.new w _ ⟨k, q, r, c, b, p, h, up⟩
  have B0 : Below w.heap.size w y := by rw [hy]; exact below_new _
  have E0 : w.heap.size < y.heap.size := A0.lt
  obtain ⟨u1, hu1⟩ : ∃ y_, y_ = y.alloc (Obj.cells #[.int .i64 k, .int .i64 q] 3) := ⟨_, rfl⟩
  have o1 : FOwn iEnc 1 3 y.heap.size u1 (.slice (some ⟨y.heap.size, 0, none⟩) 2 2) [k, q] := by rw [hu1]; exact iOwn_lit y [k, q] (by simp)
  have k1 : Below y.heap.size y u1 := by rw [hu1]; exact below_new _
  have o1 := o1.base (base' := w.heap.size) B0.size
  have B1 := B0.trans (k1.mono B0.size)
  have t1 : y.heap.size < u1.heap.size := by rw [hu1]; exact size_box y _
  have A1 := A0.below k1 E0
  obtain ⟨x0, x1, x2, x3, x4, x5, x6, x7⟩ := A0
  go_enter Tryd.func39, Tryd.ntmps39
  go_upto_region 1 with fail
  rw [← hy]
  clear hy
  go_upto_region 2 with fail
  rw [← hu1]
  clear hu1 x0 x1 x2 x3 x4 x5 x6 x7
  obtain ⟨a0, a1, a2, a3, a4, a5, a6, a7⟩ := A1
  go_wp2
  go_ret
  exact ⟨_, _, rfl, o1, B1⟩

end Go.Proofs.YtlnogijlfompoaaDoor
