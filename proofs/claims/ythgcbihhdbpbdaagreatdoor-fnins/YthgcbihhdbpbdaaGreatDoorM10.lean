/- impl.numbersOf, walked. impl.InBytes, walked. spec.l9Nums, walked. spec.InBytes, walked. -/
import Derived.Test.YthgcbihhdbpbdaaGreatDoorRows
import Derived.WalkKit
import Derived.ProofKit
import Derived.OpenShut
import Derived.ShutString
import Derived.ChangeOld
import Derived.Below
import Derived.Deep.QuietTactic
import Derived.BigQuiet
import Derived.WalkSmall
import Derived.Laws.OwnMore
import Derived.WalkSpells
import Derived.WalkLawsBesides
import Derived.Deep.Cut
import Derived.Maps.AppendAt
import Derived.Test.YthgcbihhdbpbdaaGreatDoorM6
import Derived.Test.YthgcbihhdbpbdaaGreatDoorM5
import Derived.Test.YthgcbihhdbpbdaaGreatDoorM1
import Derived.Test.YthgcbihhdbpbdaaGreatDoorKIn2
import Derived.Test.YthgcbihhdbpbdaaGreatDoorM7
namespace Go.Proofs.YthgcbihhdbpbdaaGreatDoor
open Go.ChangeShapes Go.WideShapes Go.ChangeAt Go.RowKit
open Go.ChangeMaps (open_string shut_string)
set_option linter.unusedVariables false
set_option maxRecDepth 100000

def iEnc (x : Int) : List Value := [.int .i64 x]
theorem iEnc_len (x : Int) : (iEnc x).length = 1 := rfl
theorem iEnc_ones (L : List Int) : ∀ u ∈ fcells iEnc L, u.oneCell' = true := by
  induction L with
  | nil => intro u h; cases h
  | cons x L ih =>
    intro u h
    simp only [fcells, iEnc, List.mem_append, List.mem_cons, List.not_mem_nil, or_false] at h
    rcases h with rfl | h
    · rfl
    · exact ih u h
theorem iCells (L : List Int) : fcells iEnc L = L.map (Value.int .i64) := by
  induction L with
  | nil => rfl
  | cons x L ih => simp only [fcells, iEnc, List.map_cons, ih, List.cons_append, List.nil_append]
theorem iInfo : (Tryz.prog.info? 3).map (fun i => (i.zero, i.size, i.bytes)) = some (some (.int .i64 0), 1, 8) := by kernel_rfl
/-- A literal list of numbers. -/
theorem iOwn_lit (w : World) (L : List Int) (hl : L.length ≤ 1000) : FOwn iEnc 1 3 w.heap.size (w.alloc (Obj.cells (L.map (Value.int .i64)).toArray 3)) (.slice (some ⟨w.heap.size, 0, none⟩) L.length L.length) L := by
  unfold FOwn
  rw [iCells]
  exact ⟨by simp, .inr ⟨w.heap.size, L.length, (L.map (Value.int .i64)).toArray, rfl, Nat.le_refl _, heap_newF w _, Nat.le_refl _, (by unfold maxLen; omega), by simp, by rw [Nat.mul_one, List.take_of_length_le (by simp)]⟩⟩
theorem iView_lit (w : World) (L : List Int) (hl : L.length ≤ 1000) : FView iEnc (w.alloc (Obj.cells (L.map (Value.int .i64)).toArray 3)) (some ⟨w.heap.size, 0, none⟩) L := (iOwn_lit w L hl).view.2
theorem oneIfI (o : Bool) (m : Int) (hm : (if o = true then (1 : Int) else 0) = m) (w : World) : Calls Tryz.prog 79 #[.bool o] w fun e w' => e = .returned (.int .i64 m) ∧ w' = w := by
  cases o <;> (simp at hm; subst hm)
  · go_enter Tryz.func79, Tryz.ntmps79
    go_wp2
    go_ret
    exact ⟨rfl, rfl⟩
  · go_enter Tryz.func79, Tryz.ntmps79
    go_wp2
    go_ret
    exact ⟨rfl, rfl⟩
set_option maxHeartbeats 4000000 in
theorem numsI (x : Ik) (w : World) : Calls Tryz.prog 40 #[.agg #[.int .i64 x.k, .int .i64 x.q, .int .i64 x.r, .int .i64 x.c, .int .i64 x.b, .int .i64 x.p, .int .i64 x.h, .bool x.up]] w fun e w' => ∃ ad cap, e = .returned (.slice ad (inN x).length cap) ∧ FOwn iEnc 1 3 w.heap.size w' (.slice ad (inN x).length cap) (inN x) ∧ Below w.heap.size w w' := by
  obtain ⟨i0, hi, hz0, hz1, hz2⟩ := info_parts iInfo
  obtain ⟨k, q, r, c, b, p, h, up⟩ := x
  dsimp only
  by_cases h1 : k = 1
  · subst h1
    rw [show inN ⟨1, q, r, c, b, p, h, up⟩ = [1, q, r, c, b, p, h] from rfl]
    obtain ⟨y, hy⟩ : ∃ y, y = w.alloc (Obj.cells #[.int .i64 1, .int .i64 q, .int .i64 r, .int .i64 c, .int .i64 b, .int .i64 p, .int .i64 h, .bool up] 27) := ⟨_, rfl⟩
    have A0 : InAt y w.heap.size ⟨1, q, r, c, b, p, h, up⟩ := by rw [hy]; exact InAt.new w _ ⟨1, q, r, c, b, p, h, up⟩
    have B0 : Below w.heap.size w y := by rw [hy]; exact below_new _
    have E0 : w.heap.size < y.heap.size := A0.lt
    obtain ⟨u1, hu1⟩ : ∃ y_, y_ = y.alloc (Obj.cells #[.int .i64 1, .int .i64 q] 3) := ⟨_, rfl⟩
    have o1 : FOwn iEnc 1 3 y.heap.size u1 (.slice (some ⟨y.heap.size, 0, none⟩) 2 2) [1, q] := by rw [hu1]; exact iOwn_lit y [1, q] (by simp)
    have k1 : Below y.heap.size y u1 := by rw [hu1]; exact below_new _
    have o1 := o1.base (base' := w.heap.size) B0.size
    have B1 := B0.trans (k1.mono B0.size)
    have t1 : y.heap.size < u1.heap.size := by rw [hu1]; exact size_box y _
    have A1 := A0.below k1 E0
    obtain ⟨x0, x1, x2, x3, x4, x5, x6, x7⟩ := A0
    go_enter Tryz.func40, Tryz.ntmps40
    go_upto_region 1 with fail
    rw [← hy]
    clear hy
    go_upto_region 2 with fail
    rw [← hu1]
    clear hu1 x0 x1 x2 x3 x4 x5 x6 x7
    obtain ⟨a0, a1, a2, a3, a4, a5, a6, a7⟩ := A1
    obtain ⟨u2, hu2⟩ : ∃ y_, y_ = u1.alloc (Obj.cells #[.int .i64 r, .int .i64 c, .int .i64 b, .int .i64 p, .int .i64 h] 3) := ⟨_, rfl⟩
    have V1 : FView iEnc u2 (some ⟨u1.heap.size, 0, none⟩) [r, c, b, p, h] := by rw [hu2]; exact iView_lit u1 [r, c, b, p, h] (by simp)
    have k2 : Below u1.heap.size u1 u2 := by rw [hu2]; exact below_new _
    have o2 := o1.later k2
    have B2 := B1.trans (k2.mono B1.size)
    have z1 := B2.size
    go_wp2_with (first | (at_builtin; refine fappL iEnc_len iEnc_ones rfl _ _ 72 rfl w.heap.size 3 i0 (.int .i64 0) 8 Tryz.underlying72 hi hz0 hz1 hz2 rfl (by decide) (by decide) (.slice (some ⟨y.heap.size, 0, none⟩) 2 2) [1, q] rfl ?z10 (some ⟨u1.heap.size, 0, none⟩) 5 [r, c, b, p, h] rfl (fun e => by cases e) ?z11 ?z12 ?z13 ?_))
    case z10 => rw [← hu2]; exact o2
    case z11 => rw [← hu2]; exact V1
    try case z12 => simp
    case z13 => have := B1.size; first | omega | (simp; omega)
    rw [← hu2]
    clear hu2
    intro vZ wZ oZ gZ _
    obtain ⟨aZ, cZ, rfl⟩ := oZ.open_
    have BZ : Below w.heap.size w wZ := B2.grown gZ z1 (fun g e => (o2.lt g e).1)
    go_wp2
    go_ret
    exact ⟨aZ, cZ, rfl, oZ, BZ⟩
  have d1 : (k == 1) = false := by simpa using h1
  by_cases h3 : k = 3
  · subst h3
    rw [show inN ⟨3, q, r, c, b, p, h, up⟩ = [3, q, if up then 1 else 0] from rfl]
    obtain ⟨m, hm⟩ : ∃ m : Int, (if up = true then (1 : Int) else 0) = m := ⟨_, rfl⟩
    rw [hm]
    replace hm : Hid _ := hm
    obtain ⟨y, hy⟩ : ∃ y, y = w.alloc (Obj.cells #[.int .i64 3, .int .i64 q, .int .i64 r, .int .i64 c, .int .i64 b, .int .i64 p, .int .i64 h, .bool up] 27) := ⟨_, rfl⟩
    have A0 : InAt y w.heap.size ⟨3, q, r, c, b, p, h, up⟩ := by rw [hy]; exact InAt.new w _ ⟨3, q, r, c, b, p, h, up⟩
    have B0 : Below w.heap.size w y := by rw [hy]; exact below_new _
    have E0 : w.heap.size < y.heap.size := A0.lt
    obtain ⟨u1, hu1⟩ : ∃ y_, y_ = y.alloc (Obj.cells #[.int .i64 3, .int .i64 q] 3) := ⟨_, rfl⟩
    have o1 : FOwn iEnc 1 3 y.heap.size u1 (.slice (some ⟨y.heap.size, 0, none⟩) 2 2) [3, q] := by rw [hu1]; exact iOwn_lit y [3, q] (by simp)
    have k1 : Below y.heap.size y u1 := by rw [hu1]; exact below_new _
    have o1 := o1.base (base' := w.heap.size) B0.size
    have B1 := B0.trans (k1.mono B0.size)
    have t1 : y.heap.size < u1.heap.size := by rw [hu1]; exact size_box y _
    have A1 := A0.below k1 E0
    obtain ⟨x0, x1, x2, x3, x4, x5, x6, x7⟩ := A0
    go_enter Tryz.func40, Tryz.ntmps40
    go_upto_region 1 with fail
    rw [← hy]
    clear hy
    go_upto_region 2 with fail
    rw [← hu1]
    clear hu1 x0 x1 x2 x3 x4 x5 x6 x7
    obtain ⟨a0, a1, a2, a3, a4, a5, a6, a7⟩ := A1
    obtain ⟨u2, hu2⟩ : ∃ y_, y_ = u1.alloc (Obj.cells #[.int .i64 m] 3) := ⟨_, rfl⟩
    have V1 : FView iEnc u2 (some ⟨u1.heap.size, 0, none⟩) [m] := by rw [hu2]; exact iView_lit u1 [m] (by simp)
    have k2 : Below u1.heap.size u1 u2 := by rw [hu2]; exact below_new _
    have o2 := o1.later k2
    have B2 := B1.trans (k2.mono B1.size)
    have z1 := B2.size
    go_wp2_with fail
    go_at_call 79
    refine (oneIfI up m hm.out _).mono ?_
    rintro e v1 ⟨rfl, hv1⟩
    rw [hv1]
    clear hv1 v1
    go_wp2_with (first | (at_builtin; refine fappL iEnc_len iEnc_ones rfl _ _ 72 rfl w.heap.size 3 i0 (.int .i64 0) 8 Tryz.underlying72 hi hz0 hz1 hz2 rfl (by decide) (by decide) (.slice (some ⟨y.heap.size, 0, none⟩) 2 2) [3, q] rfl ?z30 (some ⟨u1.heap.size, 0, none⟩) 1 [m] rfl (fun e => by cases e) ?z31 ?z32 ?z33 ?_))
    case z30 => rw [← hu2]; exact o2
    case z31 => rw [← hu2]; exact V1
    try case z32 => simp
    case z33 => have := B1.size; first | omega | (simp; omega)
    rw [← hu2]
    clear hu2
    intro vZ wZ oZ gZ _
    obtain ⟨aZ, cZ, rfl⟩ := oZ.open_
    have BZ : Below w.heap.size w wZ := B2.grown gZ z1 (fun g e => (o2.lt g e).1)
    go_wp2
    go_ret
    exact ⟨aZ, cZ, rfl, oZ, BZ⟩
  have d3 : (k == 3) = false := by simpa using h3
  have e : inN ⟨k, q, r, c, b, p, h, up⟩ = [k, q] := by unfold inN; rw [if_neg h1, if_neg h3]
  rw [e]
  clear e h1 h3
  obtain ⟨y, hy⟩ : ∃ y, y = w.alloc (Obj.cells #[.int .i64 k, .int .i64 q, .int .i64 r, .int .i64 c, .int .i64 b, .int .i64 p, .int .i64 h, .bool up] 27) := ⟨_, rfl⟩
  have A0 : InAt y w.heap.size ⟨k, q, r, c, b, p, h, up⟩ := by rw [hy]; exact InAt.new w _ ⟨k, q, r, c, b, p, h, up⟩
  have B0 : Below w.heap.size w y := by rw [hy]; exact below_new _
  have E0 : w.heap.size < y.heap.size := A0.lt
  obtain ⟨u1, hu1⟩ : ∃ y_, y_ = y.alloc (Obj.cells #[.int .i64 k, .int .i64 q] 3) := ⟨_, rfl⟩
  have o1 : FOwn iEnc 1 3 y.heap.size u1 (.slice (some ⟨y.heap.size, 0, none⟩) 2 2) [k, q] := by rw [hu1]; exact iOwn_lit y [k, q] (by simp)
  have k1 : Below y.heap.size y u1 := by rw [hu1]; exact below_new _
  have o1 := o1.base (base' := w.heap.size) B0.size
  have B1 := B0.trans (k1.mono B0.size)
  have t1 : y.heap.size < u1.heap.size := by rw [hu1]; exact size_box y _
  have A1 := A0.below k1 E0
  obtain ⟨x0, x1, x2, x3, x4, x5, x6, x7⟩ := A0
  go_enter Tryz.func40, Tryz.ntmps40
  go_upto_region 1 with fail
  rw [← hy]
  clear hy
  go_upto_region 2 with fail
  rw [← hu1]
  clear hu1 x0 x1 x2 x3 x4 x5 x6 x7
  obtain ⟨a0, a1, a2, a3, a4, a5, a6, a7⟩ := A1
  go_wp2
  go_ret
  exact ⟨_, _, rfl, o1, B1⟩

end Go.Proofs.YthgcbihhdbpbdaaGreatDoor
namespace Go.Proofs.YthgcbihhdbpbdaaGreatDoor
open Go.ChangeShapes Go.WideShapes Go.ChangeAt Go.RowKit
open Go.ChangeMaps (open_string shut_string)
set_option linter.unusedVariables false
set_option maxRecDepth 100000

theorem inN_len (x : Ik) : (inN x).length ≤ 7 ∧ 2 ≤ (inN x).length := by
  unfold inN
  (repeat' split) <;> simp
theorem inN_bd {x : Ik} (h : inOk x = true) : ∀ y ∈ inN x, 0 ≤ y ∧ y ≤ 255 := fun y hy => by have := inOk_N h y hy; omega
theorem wfS {n : Int} (h0 : 0 ≤ n) (h1 : n < 128) : (Lit.int .i64 n).wf = true := by
  simp [Lit.wf, IntKind.min, IntKind.max, IntKind.signed, IntKind.bits]
  omega
theorem iAt {w : World} {ad : Option Addr} {L : List Int} (hv : FView iEnc w ad L) {k : Nat} (hk : k < L.length) : ∃ b off, ad = some ⟨b, off, none⟩ ∧ w.cell? ⟨b, off + k, none⟩ = some (.int .i64 (L.getD k 0)) := by
  obtain ⟨b, off, rfl, hc⟩ := hv (by omega)
  refine ⟨b, off, rfl, hc k _ ?_⟩
  rw [iCells, List.getElem?_map, List.getElem?_eq_getElem hk]
  simp [List.getD, List.getElem?_eq_getElem hk]
theorem take_next {L : List Int} {k : Nat} (hk : k < L.length) : L.take k ++ [L.getD k 0] = L.take (k + 1) := by
  rw [List.take_add_one, List.getElem?_eq_getElem hk]
  simp [List.getD, List.getElem?_eq_getElem hk]
theorem getD_mem0 {L : List Int} {k : Nat} (hk : k < L.length) : L.getD k 0 ∈ L := by
  simp only [List.getD, List.getElem?_eq_getElem hk, Option.getD_some]
  exact List.getElem_mem hk
set_option maxHeartbeats 4000000 in
theorem inBI (x : Ik) (w : World) : Calls Tryz.prog 7 #[.agg #[.int .i64 x.k, .int .i64 x.q, .int .i64 x.r, .int .i64 x.c, .int .i64 x.b, .int .i64 x.p, .int .i64 x.h, .bool x.up]] w fun e w' => ∃ v, e = .returned v ∧ w'.ownsRow w.heap.size 5 1 v (inBy x).length ((inBy x).map (Value.int .u8)) ∧ Below w.heap.size w w' := by
  obtain ⟨y, hy⟩ : ∃ y, y = w.alloc (Obj.cells #[.int .i64 x.k, .int .i64 x.q, .int .i64 x.r, .int .i64 x.c, .int .i64 x.b, .int .i64 x.p, .int .i64 x.h, .bool x.up] 27) := ⟨_, rfl⟩
  have A0 : InAt y w.heap.size x := by rw [hy]; exact InAt.new w _ x
  have B0 : Below w.heap.size w y := by rw [hy]; exact below_new _
  have E0 := A0.lt
  cases hok : inOk x with
  | false =>
    have e : inBy x = [] := by unfold inBy; rw [if_neg (by rw [hok]; simp)]
    rw [e]
    clear e
    obtain ⟨a0, a1, a2, a3, a4, a5, a6, a7⟩ := A0
    go_enter Tryz.func7, Tryz.ntmps7
    go_upto_region 1 with fail
    rw [← hy]
    clear hy
    go_wp2_with fail
    go_at_call 24
    refine (inOkI x y).mono ?_
    rintro e y1 ⟨rfl, k1⟩
    rw [hok]
    have B1 := B0.trans (k1.mono B0.size)
    go_wp2
    go_ret
    exact ⟨_, rfl, World.ownsRow_nil _ _ _ _, B1⟩
  | true =>
    have e : inBy x = inN x ++ low4 (sumL (inN x)) := by unfold inBy; rw [if_pos hok]
    rw [e]
    clear e
    have hbd := inOk_N hok
    have hlen := (inN_len x).1
    have HB := sumL_bd (inN x)
    obtain ⟨L, hL⟩ : ∃ L, inN x = L := ⟨_, rfl⟩
    rw [hL] at hbd hlen HB ⊢
    obtain ⟨s, hsum⟩ : ∃ s, sumL L = s := ⟨_, rfl⟩
    rw [hsum] at HB ⊢
    replace hL : Hid _ := hL
    replace hsum : Hid _ := hsum
    go_enter Tryz.func7, Tryz.ntmps7
    go_upto_region 1 with fail
    rw [← hy]
    clear hy
    have cc := A0
    obtain ⟨a0, a1, a2, a3, a4, a5, a6, a7⟩ := cc
    go_wp2_with fail
    go_at_call 24
    clear a0 a1 a2 a3 a4 a5 a6 a7
    refine (inOkI x y).mono ?_
    rintro e y1 ⟨rfl, k1⟩
    rw [hok]
    have B1 := B0.trans (k1.mono B0.size)
    have A1 := A0.below k1 E0
    clear A0 k1
    obtain ⟨a0, a1, a2, a3, a4, a5, a6, a7⟩ := A1
    go_wp2_with fail
    go_at_call 40
    clear a0 a1 a2 a3 a4 a5 a6 a7
    refine (numsI x y1).mono ?_
    rintro e y2 ⟨adN, capN, rfl, oN, k2⟩
    rw [hL.out] at oN ⊢
    have B2 := B1.trans (k2.mono B1.size)
    have vN := oN.view.2
    have lN : ∀ a, adN = some a → 0 < L.length → a.block < y2.heap.size := vN.lt iEnc_len (by omega)
    clear oN k2 B1 B0 hok E0
    go_wp2
    go_loopw [3, 12] (fun v i wr => ∃ k : Nat, k ≤ L.length ∧ i = .int .i64 k ∧ wr.ownsRow y2.heap.size 5 1 v (L.take k).length ((L.take k).map (Value.int .u8)) ∧ Below y2.heap.size y2 wr) (fun _ i _ => L.length - (intOf i).toNat)
    case atStart => exact ⟨0, Nat.zero_le _, rfl, World.ownsRow_nil _ _ _ _, Below.refl _ _⟩
    case round =>
      obtain ⟨k, hk, rfl, hown, hb⟩ := hrel
      by_cases hlt : k < L.length
      · obtain ⟨b, off, rfl, hc⟩ := iAt (vN.below hb lN) hlt
        obtain ⟨n0, n1⟩ := hbd _ (getD_mem0 hlt)
        have HT : Hid (L.take k ++ [L.getD k 0] = L.take (k + 1)) := take_next hlt
        have htl : (L.take k).length ≤ 7 := by simp; omega
        generalize L.getD k 0 = n at hc n0 n1 HT
        have hwf := wfS n0 n1
        have hs := hb.size
        go_wp2_with fail
        go_at_call 41
        refine (putImpl n wr hwf).mono ?_
        rintro e w2 ⟨v2, rfl, o2, k2⟩
        rw [putZ_small n0 (by omega)] at o2
        obtain ⟨_, ad2, cap2, rfl, v2, _, _⟩ := own_view o2
        have hown2 := own_carry hown k2
        have hb2 := hb.trans (k2.mono hs)
        have hs2 := k2.size
        generalize hM : L.take k = M at hown hown2 HT htl
        clear hM hown hc hwf o2
        go_wp2_with (first | (at_builtin; refine app_view rfl _ _ rfl y2.heap.size _ M rfl hown2 ad2 cap2 [n] rfl v2 ?n1 ?n2 ?n3 ?_))
        case n1 => exact fun h => by simp at h
        try case n2 => simp; omega
        try case n3 => omega
        intro v3 w3 o3 k3
        have hb3 := hb2.trans k3
        have o3 : w3.ownsRow y2.heap.size 5 1 v3 (M ++ [n]).length ((M ++ [n]).map (Value.int .u8)) := by simpa using o3
        rw [HT.out] at o3
        go_wp2
        go_roundw
        case rel => exact ⟨k + 1, by omega, by go_num, o3, hb3⟩
        case measure => simp [intOf]; omega
      · obtain rfl : k = L.length := by omega
        rw [List.take_length] at hown
        have hgd : ∀ i, 0 ≤ L.getD i 0 ∧ L.getD i 0 ≤ 255 := getD_bd (fun y hy => by have := hbd y hy; omega)
        obtain ⟨_, ad1, cap1, rfl, v1, _, _⟩ := own_view hown
        have hs := hb.size
        go_wp2_with fail
        go_at_call 43
        refine (sumImpl ad1 L.length cap1 (fun i => L.getD i 0) wr v1 (by omega) hgd).mono ?_
        rintro e w1 ⟨rfl, hw_⟩
        rw [hw_]
        clear hw_ w1
        rw [show sy (fun i => L.getD i 0) L.length * 65536 + sx (fun i => L.getD i 0) L.length = s from hsum.out]
        go_wp2_with fail
        go_at_call 42
        refine (lowFirst s wr HB.1 HB.2).mono ?_
        rintro e w2 ⟨rfl, v2, s2, k2⟩
        have hown2 := own_carry hown k2
        have hb2 := hb.trans (k2.mono hs)
        have e4 : (low4 s).length = 4 := rfl
        clear hown v1
        go_wp2_with (first | (at_builtin; refine app_view rfl _ _ rfl y2.heap.size _ L rfl hown2 (some ⟨wr.heap.size, 0, none⟩) 4 (low4 s) rfl v2 ?m1 ?m2 ?m3 ?_))
        case m1 => exact fun h => by simp [low4] at h
        try case m2 => rw [e4]; omega
        try case m3 => omega
        intro v3 w3 o3 k3
        have B3 := B2.trans ((hb2.trans k3).mono B2.size)
        clear e4
        have o3 : w3.ownsRow y2.heap.size 5 1 v3 (L ++ low4 s).length ((L ++ low4 s).map (Value.int .u8)) := by rw [List.length_append, show (low4 s).length = 4 from rfl]; simpa using o3
        go_wp2
        go_ret
        exact ⟨_, rfl, own_base o3 B2.size, B3⟩

end Go.Proofs.YthgcbihhdbpbdaaGreatDoor
namespace Go.Proofs.YthgcbihhdbpbdaaGreatDoor
open Go.ChangeShapes Go.WideShapes Go.ChangeAt Go.RowKit
open Go.ChangeMaps (open_string shut_string)
set_option linter.unusedVariables false
set_option maxRecDepth 100000

theorem l1BitS (o : Bool) (m : Int) (hm : (if o = true then (1 : Int) else 0) = m) (w : World) : Calls Tryz.prog 58 #[.bool o] w fun e w' => e = .returned (.int .i64 m) ∧ w' = w := by
  cases o <;> (simp at hm; subst hm)
  · go_enter Tryz.func58, Tryz.ntmps58
    go_wp2
    go_ret
    exact ⟨rfl, rfl⟩
  · go_enter Tryz.func58, Tryz.ntmps58
    go_wp2
    go_ret
    exact ⟨rfl, rfl⟩
set_option maxHeartbeats 4000000 in
theorem l9NumsS (ad : Option Addr) (cap : Nat) (L : List Int) (w : World) (vN : FView iEnc w ad L) (hbd : ∀ y ∈ L, 0 ≤ y ∧ y < 128) (hlen : L.length ≤ 7) :
    Calls Tryz.prog 57 #[.slice ad L.length cap] w fun e w' => ∃ v, e = .returned v ∧ w'.ownsRow w.heap.size 5 1 v L.length (L.map (Value.int .u8)) ∧ Below w.heap.size w w' := by
  have lN : ∀ a, ad = some a → 0 < L.length → a.block < w.heap.size := vN.lt iEnc_len (by omega)
  go_enter Tryz.func57, Tryz.ntmps57
  go_wp2
  go_loopw [3, 4] (fun v i wr => ∃ k : Nat, k ≤ L.length ∧ i = .int .i64 k ∧ wr.ownsRow w.heap.size 5 1 v (L.take k).length ((L.take k).map (Value.int .u8)) ∧ Below w.heap.size w wr) (fun _ i _ => L.length - (intOf i).toNat)
  case atStart => exact ⟨0, Nat.zero_le _, rfl, by simpa using own_empty w 5, (Below.refl _ _).alloc (Nat.le_refl _) _⟩
  case round =>
    obtain ⟨k, hk, rfl, hown, hb⟩ := hrel
    by_cases hlt : k < L.length
    · obtain ⟨b, off, rfl, hc⟩ := iAt (vN.below hb lN) hlt
      obtain ⟨n0, n1⟩ := hbd _ (getD_mem0 hlt)
      have HT : Hid (L.take k ++ [L.getD k 0] = L.take (k + 1)) := take_next hlt
      have htl : (L.take k).length ≤ 7 := by simp; omega
      generalize L.getD k 0 = n at hc n0 n1 HT
      have hwf := wfS n0 n1
      have hs := hb.size
      go_wp2_with fail
      go_at_call 81
      refine (putSpec n wr hwf).mono ?_
      rintro e w2 ⟨v2, rfl, o2, k2⟩
      rw [putZ_small n0 (by omega)] at o2
      obtain ⟨_, ad2, cap2, rfl, v2, _, _⟩ := own_view o2
      have hown2 := own_carry hown k2
      have hb2 := hb.trans (k2.mono hs)
      have hs2 := k2.size
      generalize hM : L.take k = M at hown hown2 HT htl
      clear hM hown hc hwf o2
      go_wp2_with (first | (at_builtin; refine app_view rfl _ _ rfl w.heap.size _ M rfl hown2 ad2 cap2 [n] rfl v2 ?n1 ?n2 ?n3 ?_))
      case n1 => exact fun h => by simp at h
      try case n2 => simp; omega
      try case n3 => omega
      intro v3 w3 o3 k3
      have hb3 := hb2.trans k3
      have o3 : w3.ownsRow w.heap.size 5 1 v3 (M ++ [n]).length ((M ++ [n]).map (Value.int .u8)) := by simpa using o3
      rw [HT.out] at o3
      go_wp2
      go_roundw
      case rel => exact ⟨k + 1, by omega, by go_num, o3, hb3⟩
      case measure => simp [intOf]; omega
    · obtain rfl : k = L.length := by omega
      rw [List.take_length] at hown
      go_wp2
      go_ret
      exact ⟨_, rfl, hown, hb⟩

end Go.Proofs.YthgcbihhdbpbdaaGreatDoor
namespace Go.Proofs.YthgcbihhdbpbdaaGreatDoor
open Go.ChangeShapes Go.WideShapes Go.ChangeAt Go.RowKit
open Go.ChangeMaps (open_string shut_string)
set_option linter.unusedVariables false
set_option maxRecDepth 100000

theorem own_some {w : World} {base E n : Nat} {v : Value} {xs : List Value} (h : w.ownsRow base E 1 v n xs) (hn : 0 < n) : v.ownBlock ≠ none := by
  rcases h.2 with ⟨_, h0⟩ | ⟨g, cap, cur, rfl, _⟩
  · omega
  · simp [Value.ownBlock]
set_option maxHeartbeats 4000000 in
theorem inBS (x : Ik) (w : World) : Calls Tryz.prog 18 #[.agg #[.int .i64 x.k, .int .i64 x.q, .int .i64 x.r, .int .i64 x.c, .int .i64 x.b, .int .i64 x.p, .int .i64 x.h, .bool x.up]] w fun e w' => ∃ v, e = .returned v ∧ w'.ownsRow w.heap.size 5 1 v (inBy x).length ((inBy x).map (Value.int .u8)) ∧ Below w.heap.size w w' ∧ v.ownBlock ≠ none := by
  cases hok : inOk x with
  | false =>
    have e : inBy x = [] := by unfold inBy; rw [if_neg (by rw [hok]; simp)]
    rw [e]
    clear e
    obtain ⟨y, hy⟩ : ∃ y, y = w.alloc (Obj.cells #[.int .i64 x.k, .int .i64 x.q, .int .i64 x.r, .int .i64 x.c, .int .i64 x.b, .int .i64 x.p, .int .i64 x.h, .bool x.up] 27) := ⟨_, rfl⟩
    have A0 : InAt y w.heap.size x := by rw [hy]; exact InAt.new w _ x
    have B0 : Below w.heap.size w y := by rw [hy]; exact below_new _
    obtain ⟨a0, a1, a2, a3, a4, a5, a6, a7⟩ := A0
    go_enter Tryz.func18, Tryz.ntmps18
    go_upto_region 1 with fail
    rw [← hy]
    clear hy
    go_wp2_with fail
    go_at_call 25
    refine (inOkS x y).mono ?_
    rintro e y1 ⟨rfl, k1⟩
    rw [hok]
    have B1 := B0.trans (k1.mono B0.size)
    go_wp2
    go_ret
    exact ⟨_, rfl, own_base (own_empty y1 5) B1.size, B1.alloc B1.size _, by simp [Value.ownBlock]⟩
  | true =>
    have e : inBy x = inN x ++ low4 (sumL (inN x)) := by unfold inBy; rw [if_pos hok]
    rw [e]
    clear e
    have hbd := inOk_N hok
    have HB := sumL_bd (inN x)
    have hgd := getD_bd (inN_bd hok)
    obtain ⟨L, hL⟩ : ∃ L, inN x = L := ⟨_, rfl⟩
    rw [hL] at HB hgd ⊢
    obtain ⟨s, hsum⟩ : ∃ s, sumL L = s := ⟨_, rfl⟩
    rw [hsum] at HB ⊢
    replace hsum : Hid _ := hsum
    replace hok : Hid _ := hok
    have hk : x.k = 1 ∨ x.k = 2 ∨ x.k = 3 := by
      have hok := hok.out
      unfold inOk at hok
      by_cases h1 : x.k = 1
      · exact .inl h1
      by_cases h3 : x.k = 3
      · exact .inr (.inr h3)
      by_cases h2 : x.k = 2
      · exact .inr (.inl h2)
      rw [if_neg h1, if_neg h3, if_neg h2] at hok
      cases hok
    obtain ⟨k, q, r, c, b, p, h, up⟩ := x
    dsimp only at hk ⊢
    rcases hk with rfl | rfl | rfl
    · rw [show inN ⟨1, q, r, c, b, p, h, up⟩ = [1, q, r, c, b, p, h] from rfl] at hL hbd
      subst hL
      obtain ⟨y, hy⟩ : ∃ y, y = w.alloc (Obj.cells #[.int .i64 1, .int .i64 q, .int .i64 r, .int .i64 c, .int .i64 b, .int .i64 p, .int .i64 h, .bool up] 27) := ⟨_, rfl⟩
      have A0 : InAt y w.heap.size ⟨1, q, r, c, b, p, h, up⟩ := by rw [hy]; exact InAt.new w _ ⟨1, q, r, c, b, p, h, up⟩
      have B0 : Below w.heap.size w y := by rw [hy]; exact below_new _
      have E0 := A0.lt
      go_enter Tryz.func18, Tryz.ntmps18
      go_upto_region 1 with fail
      rw [← hy]
      clear hy
      have cc := A0
      obtain ⟨a0, a1, a2, a3, a4, a5, a6, a7⟩ := cc
      go_wp2_with fail
      go_at_call 25
      clear a0 a1 a2 a3 a4 a5 a6 a7
      refine (inOkS ⟨1, q, r, c, b, p, h, up⟩ y).mono ?_
      rintro e y1 ⟨rfl, k1⟩
      rw [hok.out]
      have B1 := B0.trans (k1.mono B0.size)
      have A1 := A0.below k1 E0
      clear A0 k1
      have E1 := A1.lt
      have cc := A1
      obtain ⟨a0, a1, a2, a3, a4, a5, a6, a7⟩ := cc
      obtain ⟨uN, huN⟩ : ∃ y_, y_ = y1.alloc (Obj.cells #[.int .i64 1, .int .i64 q] 3) := ⟨_, rfl⟩
      have VN : FView iEnc uN (some ⟨y1.heap.size, 0, none⟩) [1, q] := by rw [huN]; exact iView_lit y1 [1, q] (by simp)
      have jN : Below y1.heap.size y1 uN := by rw [huN]; exact below_new _
      go_wp2_with fail
      go_at_call 57
      rw [← huN]
      clear huN
      refine (l9NumsS _ 2 [1, q] uN VN (by intro z hz; exact hbd z (by simp at hz ⊢; omega)) (by simp)).mono ?_
      rintro e y2 ⟨vN, rfl, ON, kN⟩
      have kN := jN.trans (kN.mono jN.size)
      have ON := own_base ON jN.size
      have B2 := B1.trans (kN.mono B1.size)
      have A2 := A1.below kN E1
      clear a0 a1 a2 a3 a4 a5 a6 a7 A1 VN jN
      have E2 := A2.lt
      obtain ⟨_, adN, capN, rfl, wN, _, _⟩ := own_view ON
      obtain ⟨a0, a1, a2, a3, a4, a5, a6, a7⟩ := A2
      obtain ⟨uM, huM⟩ : ∃ y_, y_ = y2.alloc (Obj.cells #[.int .i64 r, .int .i64 c, .int .i64 b, .int .i64 p, .int .i64 h] 3) := ⟨_, rfl⟩
      have VM : FView iEnc uM (some ⟨y2.heap.size, 0, none⟩) [r, c, b, p, h] := by rw [huM]; exact iView_lit y2 [r, c, b, p, h] (by simp)
      have jM : Below y2.heap.size y2 uM := by rw [huM]; exact below_new _
      go_wp2_with fail
      go_at_call 57
      rw [← huM]
      clear huM
      refine (l9NumsS _ 5 [r, c, b, p, h] uM VM (by intro z hz; exact hbd z (by simp at hz ⊢; omega)) (by simp)).mono ?_
      rintro e y3 ⟨vM, rfl, OM, kM⟩
      have kM := jM.trans (kM.mono jM.size)
      have OM := own_base OM jM.size
      have B3 := B2.trans (kM.mono B2.size)
      have ON := own_carry ON kM
      have s3 := kM.size
      obtain ⟨_, adM, capM, rfl, wM, _, _⟩ := own_view OM
      clear a0 a1 a2 a3 a4 a5 a6 a7 VM jM wN
      go_wp2_with (first | (at_builtin; refine app_view rfl _ _ rfl y1.heap.size _ [1, q] rfl ON adM capM [r, c, b, p, h] rfl wM ?n11 ?n12 ?n13 ?_))
      case n11 => exact fun h => by simp at h
      try case n12 => simp
      try case n13 => have := kN.size; omega
      intro v4 y4 O4 k4
      have O4 : y4.ownsRow y1.heap.size 5 1 v4 ([1, q] ++ [r, c, b, p, h]).length (([1, q] ++ [r, c, b, p, h]).map (Value.int .u8)) := by simpa using O4
      have B4 := B3.trans (k4.mono B1.size)
      clear ON OM wM
      have O4 : y4.ownsRow y1.heap.size 5 1 v4 7 ([1, q, r, c, b, p, h].map (Value.int .u8)) := by simpa using O4
      obtain ⟨_, ad5, cap5, hv5, w5, _, _⟩ := own_view O4
      subst hv5
      go_wp2_with fail
      go_at_call 60
      refine (sumSpec _ 7 _ (fun i => [1, q, r, c, b, p, h].getD i 0) y4 w5 (by omega) hgd).mono ?_
      rintro e w1 ⟨rfl, hw_⟩
      rw [hw_]
      clear hw_ w1
      rw [show sy (fun i => [1, q, r, c, b, p, h].getD i 0) 7 * 65536 + sx (fun i => [1, q, r, c, b, p, h].getD i 0) 7 = s from hsum.out]
      go_wp2_with fail
      go_at_call 59
      refine (l2sum s y4 HB.1 HB.2).mono ?_
      rintro e y6 ⟨v6, rfl, O6, k6⟩
      have O4 := own_carry O4 k6
      have B6 := B4.trans (k6.mono B4.size)
      obtain ⟨_, ad6, cap6, rfl, w6, _, _⟩ := own_view O6
      have s6 := k6.size
      have e4 : (low4 s).length = 4 := rfl
      go_wp2_with (first | (at_builtin; refine app_view rfl _ _ rfl y1.heap.size _ [1, q, r, c, b, p, h] rfl O4 ad6 cap6 (low4 s) rfl w6 ?m11 ?m12 ?m13 ?_))
      case m11 => exact fun h => by simp [low4] at h
      try case m12 => simp [low4]
      try case m13 => have := kN.size; have := k4.size; omega
      intro v7 y7 O7 k7
      clear e4
      have O7 : y7.ownsRow y1.heap.size 5 1 v7 ([1, q, r, c, b, p, h] ++ low4 s).length (([1, q, r, c, b, p, h] ++ low4 s).map (Value.int .u8)) := by simpa [low4] using O7
      have B7 := B6.trans (k7.mono B1.size)
      go_wp2
      go_ret
      exact ⟨_, rfl, own_base O7 B1.size, B7, own_some O7 (by simp)⟩
    · rw [show inN ⟨2, q, r, c, b, p, h, up⟩ = [2, q] from rfl] at hL hbd
      subst hL
      obtain ⟨y, hy⟩ : ∃ y, y = w.alloc (Obj.cells #[.int .i64 2, .int .i64 q, .int .i64 r, .int .i64 c, .int .i64 b, .int .i64 p, .int .i64 h, .bool up] 27) := ⟨_, rfl⟩
      have A0 : InAt y w.heap.size ⟨2, q, r, c, b, p, h, up⟩ := by rw [hy]; exact InAt.new w _ ⟨2, q, r, c, b, p, h, up⟩
      have B0 : Below w.heap.size w y := by rw [hy]; exact below_new _
      have E0 := A0.lt
      go_enter Tryz.func18, Tryz.ntmps18
      go_upto_region 1 with fail
      rw [← hy]
      clear hy
      have cc := A0
      obtain ⟨a0, a1, a2, a3, a4, a5, a6, a7⟩ := cc
      go_wp2_with fail
      go_at_call 25
      clear a0 a1 a2 a3 a4 a5 a6 a7
      refine (inOkS ⟨2, q, r, c, b, p, h, up⟩ y).mono ?_
      rintro e y1 ⟨rfl, k1⟩
      rw [hok.out]
      have B1 := B0.trans (k1.mono B0.size)
      have A1 := A0.below k1 E0
      clear A0 k1
      have E1 := A1.lt
      have cc := A1
      obtain ⟨a0, a1, a2, a3, a4, a5, a6, a7⟩ := cc
      obtain ⟨uN, huN⟩ : ∃ y_, y_ = y1.alloc (Obj.cells #[.int .i64 2, .int .i64 q] 3) := ⟨_, rfl⟩
      have VN : FView iEnc uN (some ⟨y1.heap.size, 0, none⟩) [2, q] := by rw [huN]; exact iView_lit y1 [2, q] (by simp)
      have jN : Below y1.heap.size y1 uN := by rw [huN]; exact below_new _
      go_wp2_with fail
      go_at_call 57
      rw [← huN]
      clear huN
      refine (l9NumsS _ 2 [2, q] uN VN (by intro z hz; exact hbd z (by simp at hz ⊢; omega)) (by simp)).mono ?_
      rintro e y2 ⟨vN, rfl, ON, kN⟩
      have kN := jN.trans (kN.mono jN.size)
      have ON := own_base ON jN.size
      have B2 := B1.trans (kN.mono B1.size)
      have A2 := A1.below kN E1
      clear a0 a1 a2 a3 a4 a5 a6 a7 A1 VN jN
      have E2 := A2.lt
      obtain ⟨_, adN, capN, rfl, wN, _, _⟩ := own_view ON
      obtain ⟨a0, a1, a2, a3, a4, a5, a6, a7⟩ := A2
      have O3 := ON
      have B3 := B2
      have y3e : y2 = y2 := rfl
      clear y3e
      have O3 : y2.ownsRow y1.heap.size 5 1 (.slice adN 2 capN) 2 ([2, q].map (Value.int .u8)) := by exact O3
      obtain ⟨_, ad5, cap5, hv5, w5, _, _⟩ := own_view O3
      simp only [Value.slice.injEq] at hv5
      obtain ⟨rfl, _, rfl⟩ := hv5
      go_wp2_with fail
      go_at_call 60
      refine (sumSpec _ 2 _ (fun i => [2, q].getD i 0) y2 w5 (by omega) hgd).mono ?_
      rintro e w1 ⟨rfl, hw_⟩
      rw [hw_]
      clear hw_ w1
      rw [show sy (fun i => [2, q].getD i 0) 2 * 65536 + sx (fun i => [2, q].getD i 0) 2 = s from hsum.out]
      go_wp2_with fail
      go_at_call 59
      refine (l2sum s y2 HB.1 HB.2).mono ?_
      rintro e y6 ⟨v6, rfl, O6, k6⟩
      have O3 := own_carry O3 k6
      have B6 := B3.trans (k6.mono B3.size)
      obtain ⟨_, ad6, cap6, rfl, w6, _, _⟩ := own_view O6
      have s6 := k6.size
      have e4 : (low4 s).length = 4 := rfl
      go_wp2_with (first | (at_builtin; refine app_view rfl _ _ rfl y1.heap.size _ [2, q] rfl O3 ad6 cap6 (low4 s) rfl w6 ?m21 ?m22 ?m23 ?_))
      case m21 => exact fun h => by simp [low4] at h
      try case m22 => simp [low4]
      try case m23 => have := kN.size; omega
      intro v7 y7 O7 k7
      clear e4
      have O7 : y7.ownsRow y1.heap.size 5 1 v7 ([2, q] ++ low4 s).length (([2, q] ++ low4 s).map (Value.int .u8)) := by simpa [low4] using O7
      have B7 := B6.trans (k7.mono B1.size)
      go_wp2
      go_ret
      exact ⟨_, rfl, own_base O7 B1.size, B7, own_some O7 (by simp)⟩
    · rw [show inN ⟨3, q, r, c, b, p, h, up⟩ = [3, q, if up then 1 else 0] from rfl] at hL hbd
      obtain ⟨m, hm⟩ : ∃ m : Int, (if up = true then (1 : Int) else 0) = m := ⟨_, rfl⟩
      rw [hm] at hL hbd
      replace hm : Hid _ := hm
      subst hL
      obtain ⟨y, hy⟩ : ∃ y, y = w.alloc (Obj.cells #[.int .i64 3, .int .i64 q, .int .i64 r, .int .i64 c, .int .i64 b, .int .i64 p, .int .i64 h, .bool up] 27) := ⟨_, rfl⟩
      have A0 : InAt y w.heap.size ⟨3, q, r, c, b, p, h, up⟩ := by rw [hy]; exact InAt.new w _ ⟨3, q, r, c, b, p, h, up⟩
      have B0 : Below w.heap.size w y := by rw [hy]; exact below_new _
      have E0 := A0.lt
      go_enter Tryz.func18, Tryz.ntmps18
      go_upto_region 1 with fail
      rw [← hy]
      clear hy
      have cc := A0
      obtain ⟨a0, a1, a2, a3, a4, a5, a6, a7⟩ := cc
      go_wp2_with fail
      go_at_call 25
      clear a0 a1 a2 a3 a4 a5 a6 a7
      refine (inOkS ⟨3, q, r, c, b, p, h, up⟩ y).mono ?_
      rintro e y1 ⟨rfl, k1⟩
      rw [hok.out]
      have B1 := B0.trans (k1.mono B0.size)
      have A1 := A0.below k1 E0
      clear A0 k1
      have E1 := A1.lt
      have cc := A1
      obtain ⟨a0, a1, a2, a3, a4, a5, a6, a7⟩ := cc
      obtain ⟨uN, huN⟩ : ∃ y_, y_ = y1.alloc (Obj.cells #[.int .i64 3, .int .i64 q] 3) := ⟨_, rfl⟩
      have VN : FView iEnc uN (some ⟨y1.heap.size, 0, none⟩) [3, q] := by rw [huN]; exact iView_lit y1 [3, q] (by simp)
      have jN : Below y1.heap.size y1 uN := by rw [huN]; exact below_new _
      go_wp2_with fail
      go_at_call 57
      rw [← huN]
      clear huN
      refine (l9NumsS _ 2 [3, q] uN VN (by intro z hz; exact hbd z (by simp at hz ⊢; omega)) (by simp)).mono ?_
      rintro e y2 ⟨vN, rfl, ON, kN⟩
      have kN := jN.trans (kN.mono jN.size)
      have ON := own_base ON jN.size
      have B2 := B1.trans (kN.mono B1.size)
      have A2 := A1.below kN E1
      clear a0 a1 a2 a3 a4 a5 a6 a7 A1 VN jN
      have E2 := A2.lt
      obtain ⟨_, adN, capN, rfl, wN, _, _⟩ := own_view ON
      obtain ⟨a0, a1, a2, a3, a4, a5, a6, a7⟩ := A2
      go_wp2_with fail
      go_at_call 58
      refine (l1BitS up m hm.out _).mono ?_
      rintro e v1 ⟨rfl, hv1⟩
      rw [hv1]
      clear hv1 v1
      obtain ⟨uM, huM⟩ : ∃ y_, y_ = y2.alloc (Obj.cells #[.int .i64 m] 3) := ⟨_, rfl⟩
      have VM : FView iEnc uM (some ⟨y2.heap.size, 0, none⟩) [m] := by rw [huM]; exact iView_lit y2 [m] (by simp)
      have jM : Below y2.heap.size y2 uM := by rw [huM]; exact below_new _
      go_wp2_with fail
      go_at_call 57
      rw [← huM]
      clear huM
      refine (l9NumsS _ 1 [m] uM VM (by intro z hz; exact hbd z (by simp at hz ⊢; omega)) (by simp)).mono ?_
      rintro e y3 ⟨vM, rfl, OM, kM⟩
      have kM := jM.trans (kM.mono jM.size)
      have OM := own_base OM jM.size
      have B3 := B2.trans (kM.mono B2.size)
      have ON := own_carry ON kM
      have s3 := kM.size
      obtain ⟨_, adM, capM, rfl, wM, _, _⟩ := own_view OM
      clear a0 a1 a2 a3 a4 a5 a6 a7 VM jM wN
      go_wp2_with (first | (at_builtin; refine app_view rfl _ _ rfl y1.heap.size _ [3, q] rfl ON adM capM [m] rfl wM ?n31 ?n32 ?n33 ?_))
      case n31 => exact fun h => by simp at h
      try case n32 => simp
      try case n33 => have := kN.size; omega
      intro v4 y4 O4 k4
      have O4 : y4.ownsRow y1.heap.size 5 1 v4 ([3, q] ++ [m]).length (([3, q] ++ [m]).map (Value.int .u8)) := by simpa using O4
      have B4 := B3.trans (k4.mono B1.size)
      clear ON OM wM
      have O4 : y4.ownsRow y1.heap.size 5 1 v4 3 ([3, q, m].map (Value.int .u8)) := by simpa using O4
      obtain ⟨_, ad5, cap5, hv5, w5, _, _⟩ := own_view O4
      subst hv5
      go_wp2_with fail
      go_at_call 60
      refine (sumSpec _ 3 _ (fun i => [3, q, m].getD i 0) y4 w5 (by omega) hgd).mono ?_
      rintro e w1 ⟨rfl, hw_⟩
      rw [hw_]
      clear hw_ w1
      rw [show sy (fun i => [3, q, m].getD i 0) 3 * 65536 + sx (fun i => [3, q, m].getD i 0) 3 = s from hsum.out]
      go_wp2_with fail
      go_at_call 59
      refine (l2sum s y4 HB.1 HB.2).mono ?_
      rintro e y6 ⟨v6, rfl, O6, k6⟩
      have O4 := own_carry O4 k6
      have B6 := B4.trans (k6.mono B4.size)
      obtain ⟨_, ad6, cap6, rfl, w6, _, _⟩ := own_view O6
      have s6 := k6.size
      have e4 : (low4 s).length = 4 := rfl
      go_wp2_with (first | (at_builtin; refine app_view rfl _ _ rfl y1.heap.size _ [3, q, m] rfl O4 ad6 cap6 (low4 s) rfl w6 ?m31 ?m32 ?m33 ?_))
      case m31 => exact fun h => by simp [low4] at h
      try case m32 => simp [low4]
      try case m33 => have := kN.size; have := k4.size; omega
      intro v7 y7 O7 k7
      clear e4
      have O7 : y7.ownsRow y1.heap.size 5 1 v7 ([3, q, m] ++ low4 s).length (([3, q, m] ++ low4 s).map (Value.int .u8)) := by simpa [low4] using O7
      have B7 := B6.trans (k7.mono B1.size)
      go_wp2
      go_ret
      exact ⟨_, rfl, own_base O7 B1.size, B7, own_some O7 (by simp)⟩

end Go.Proofs.YthgcbihhdbpbdaaGreatDoor
