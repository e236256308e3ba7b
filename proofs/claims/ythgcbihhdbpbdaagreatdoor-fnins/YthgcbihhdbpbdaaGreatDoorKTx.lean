/- Texts of claims and states, walked. -/
import Derived.Test.YthgcbihhdbpbdaaGreatDoorRows
import Derived.WalkKit
import Derived.ProofKit
import Derived.OpenShut
import Derived.ShutString
import Derived.ChangeOld
import Derived.Below
import Derived.Deep.QuietTactic
import Derived.BigQuiet
import Derived.WalkSmall
import Derived.Laws.OwnMore
import Derived.WalkSpells
import Derived.WalkLawsBesides
import Derived.Deep.Cut
import Derived.Lib.ItoaLen
import Derived.Lib.LaidTab
import Derived.Lib.SmallJoins
import Derived.Test.YthgcbihhdbpbdaaGreatDoorKVec3
import Derived.Test.YthgcbihhdbpbdaaGreatDoorM1
namespace Go.Proofs.YthgcbihhdbpbdaaGreatDoor
open Go.ChangeShapes Go.WideShapes Go.ChangeAt Go.RowKit
open Go.ChangeMaps (open_string shut_string)
set_option linter.unusedVariables false
set_option maxRecDepth 100000

/-- The text of a claim that came or is told. -/
def cText (q r c b p h : Int) : ByteArray := ⟨#[99, 108, 97, 105, 109, 32]⟩ ++ dig q ++ ⟨#[32]⟩ ++ vText r c b p ++ ⟨#[32]⟩ ++ dig h
/-- The text of what a port is. -/
def sText (what : ByteArray) (q : Int) (word : ByteArray) : ByteArray := what ++ ⟨#[32]⟩ ++ dig q ++ ⟨#[32]⟩ ++ word
theorem vText_size {r c b p : Int} (hr : I64 r) (hc : I64 c) (hb : I64 b) (hp : I64 p) : (vText r c b p).size ≤ 87 := by
  have z0 := dig_size hr.1 hr.2
  have z1 := dig_size hc.1 hc.2
  have z2 := dig_size hb.1 hb.2
  have z3 := dig_size hp.1 hp.2
  unfold vText
  simp only [ByteArray.size_append]
  have e : (⟨#[46]⟩ : ByteArray).size = 1 := rfl
  omega
theorem join_claim (q h : Int) (V : ByteArray) : (⟨(Lib.join ([⟨#[99, 108, 97, 105, 109]⟩, dig q, V, dig h].map (·.data.toList)) [32]).toArray⟩ : ByteArray) = ⟨#[99, 108, 97, 105, 109, 32]⟩ ++ dig q ++ ⟨#[32]⟩ ++ V ++ ⟨#[32]⟩ ++ dig h := by
  apply ByteArray.ext
  simp [Lib.join, List.intercalate, ByteArray.data_append]
theorem join_state (what word : ByteArray) (q : Int) : (⟨(Lib.join ([what, dig q, word].map (·.data.toList)) [32]).toArray⟩ : ByteArray) = sText what q word := by
  apply ByteArray.ext
  unfold sText
  simp [Lib.join, List.intercalate, ByteArray.data_append]
set_option maxHeartbeats 4000000 in
theorem l9ClaimS (q r c b p h : Int) (w : World) (hq : I64 q) (hr : I64 r) (hc : I64 c) (hb : I64 b) (hp : I64 p) (hh : I64 h) :
    Calls Tryz.prog 63 #[.int .i64 q, .agg #[.int .i64 r, .int .i64 c, .int .i64 b, .int .i64 p], .int .i64 h] w fun e w' => e = .returned (.string (cText q r c b p h)) ∧ Below w.heap.size w w' := by
  unfold cText
  obtain ⟨V, hV⟩ : ∃ V, vText r c b p = V := ⟨_, rfl⟩
  have zV := vText_size hr hc hb hp
  rw [hV] at zV ⊢
  replace hV : Hid _ := hV
  obtain ⟨x, hx⟩ : ∃ x, x = w.alloc (Obj.cells #[.int .i64 r, .int .i64 c, .int .i64 b, .int .i64 p] 25) := ⟨_, rfl⟩
  have A0 : VecAt x w.heap.size r c b p := by rw [hx]; exact vecAt_box w _ _ _ _ _
  have B0 : Below w.heap.size w x := by rw [hx]; exact below_box w _
  have S0 : w.heap.size < x.heap.size := by rw [hx]; exact size_box w _
  have z0 := dig_size hq.1 hq.2
  have z1 := dig_size hh.1 hh.2
  have q1 : ¬ 9223372036854775807 < 6 + (dig q).size := by omega
  have q2 : ¬ 9223372036854775807 < 6 + (dig q).size + 1 := by omega
  have q3 : ¬ 9223372036854775807 < 6 + (dig q).size + 1 + V.size := by omega
  have q4 : ¬ 9223372036854775807 < 6 + (dig q).size + 1 + V.size + 1 := by omega
  have q5 : ¬ 9223372036854775807 < 6 + (dig q).size + 1 + V.size + 1 + (dig h).size := by omega
  go_enter Tryz.func63, Tryz.ntmps63
  go_upto_region 1 with fail
  rw [← hx]
  clear hx
  refine wp_region_held (S := fun Y => Below x.heap.size x Y) (by kernel_rfl) ?_
  change wpAnyH _ _ _ _ _ _ _ _ (World.drew _)
  have hb0 : Below x.heap.size x x.drew := (Below.refl _ _).drew
  obtain ⟨u0, hy0⟩ : ∃ y_, y_ = x.drew := ⟨_, rfl⟩
  rw [← hy0] at hb0 ⊢
  clear hy0
  refine takeW 0 7 (.int .i64 q) rfl rfl (by kernel_rfl) (by kernel_rfl) (by kernel_rfl) (fun _ _ _ h => h) (by kernel_rfl) (by (intro w hSw; go_simp)) (by assumption) ?_
  simp only [List.set_cons_zero, List.set_cons_succ]
  refine takeW 4 11 (.agg #[.int .i64 r, .int .i64 c, .int .i64 b, .int .i64 p]) rfl rfl (by kernel_rfl) (by kernel_rfl) (by kernel_rfl) (fun _ _ _ h => h) (by kernel_rfl) (by (intro Y hSw; obtain ⟨C1, C2, C3, C4⟩ := A0.below hSw (by omega); go_simp)) (by assumption) ?_
  simp only [List.set_cons_zero, List.set_cons_succ]
  refine takeW 8 15 (.int .i64 h) rfl rfl (by kernel_rfl) (by kernel_rfl) (by kernel_rfl) (fun _ _ _ h => h) (by kernel_rfl) (by (intro w hSw; go_simp)) (by assumption) ?_
  simp only [List.set_cons_zero, List.set_cons_succ]
  refine wpAnyH_all (rs := [1]) (by kernel_rfl) (by simp) ?_
  intro i hi; obtain rfl : i = 1 := by simpa using hi
  refine wpOp_step rfl (fun K hK => ?_)
  rw [if_pos (by kernel_rfl)]
  go_simp
  go_at_call 64
  refine (digitsSpec q u0 hq.1 hq.2).mono ?_
  rintro e u1 ⟨rfl, kq⟩
  have hb1 : Below x.heap.size x u1 := hb0.trans (kq.mono hb0.size)
  clear kq
  rw [show (⟨(Lib.itoa q).toArray⟩ : ByteArray) = dig q from rfl]
  refine hK _ _ ⟨hb1, ?_⟩
  clear hK K hi
  refine takeW 2 9 (.string (⟨#[99, 108, 97, 105, 109, 32]⟩ ++ dig q)) rfl rfl (by kernel_rfl) (by kernel_rfl) (by kernel_rfl) (fun _ _ _ h => h) (by kernel_rfl) (by (intro w hSw; go_simp)) (by assumption) ?_
  simp only [List.set_cons_zero, List.set_cons_succ]
  refine takeW 3 10 (.string (⟨#[99, 108, 97, 105, 109, 32]⟩ ++ dig q ++ ⟨#[32]⟩)) rfl rfl (by kernel_rfl) (by kernel_rfl) (by kernel_rfl) (fun _ _ _ h => h) (by kernel_rfl) (by (intro w hSw; go_simp)) (by assumption) ?_
  simp only [List.set_cons_zero, List.set_cons_succ]
  refine wpAnyH_all (rs := [5]) (by kernel_rfl) (by simp) ?_
  intro i hi; obtain rfl : i = 5 := by simpa using hi
  refine wpOp_step rfl (fun K hK => ?_)
  rw [if_pos (by kernel_rfl)]
  go_simp
  go_at_call 77
  refine (textS r c b p u1 hr hc hb hp).mono ?_
  rintro e u2 ⟨rfl, kq⟩
  have hb2 : Below x.heap.size x u2 := hb1.trans (kq.mono hb1.size)
  clear kq
  rw [hV.out]
  refine hK _ _ ⟨hb2, ?_⟩
  clear hK K hi
  refine takeW 6 13 (.string (⟨#[99, 108, 97, 105, 109, 32]⟩ ++ dig q ++ ⟨#[32]⟩ ++ V)) rfl rfl (by kernel_rfl) (by kernel_rfl) (by kernel_rfl) (fun _ _ _ h => h) (by kernel_rfl) (by (intro w hSw; go_simp)) (by assumption) ?_
  simp only [List.set_cons_zero, List.set_cons_succ]
  refine takeW 7 14 (.string (⟨#[99, 108, 97, 105, 109, 32]⟩ ++ dig q ++ ⟨#[32]⟩ ++ V ++ ⟨#[32]⟩)) rfl rfl (by kernel_rfl) (by kernel_rfl) (by kernel_rfl) (fun _ _ _ h => h) (by kernel_rfl) (by (intro w hSw; go_simp)) (by assumption) ?_
  simp only [List.set_cons_zero, List.set_cons_succ]
  refine wpAnyH_all (rs := [9]) (by kernel_rfl) (by simp) ?_
  intro i hi; obtain rfl : i = 9 := by simpa using hi
  refine wpOp_step rfl (fun K hK => ?_)
  rw [if_pos (by kernel_rfl)]
  go_simp
  go_at_call 64
  refine (digitsSpec h u2 hh.1 hh.2).mono ?_
  rintro e u3 ⟨rfl, kq⟩
  have hb3 : Below x.heap.size x u3 := hb2.trans (kq.mono hb2.size)
  clear kq
  rw [show (⟨(Lib.itoa h).toArray⟩ : ByteArray) = dig h from rfl]
  refine hK _ _ ⟨hb3, ?_⟩
  clear hK K hi
  refine takeW 10 17 (.string (⟨#[99, 108, 97, 105, 109, 32]⟩ ++ dig q ++ ⟨#[32]⟩ ++ V ++ ⟨#[32]⟩ ++ dig h)) rfl rfl (by kernel_rfl) (by kernel_rfl) (by kernel_rfl) (fun _ _ _ h => h) (by kernel_rfl) (by (intro w hSw; go_simp)) (by assumption) ?_
  simp only [List.set_cons_zero, List.set_cons_succ]
  refine takeW 11 6 (.string (⟨#[99, 108, 97, 105, 109, 32]⟩ ++ dig q ++ ⟨#[32]⟩ ++ V ++ ⟨#[32]⟩ ++ dig h)) rfl rfl (by kernel_rfl) (by kernel_rfl) (by kernel_rfl) (fun _ _ _ h => h) (by kernel_rfl) (by (intro w hSw; go_simp)) (by assumption) ?_
  simp only [List.set_cons_zero, List.set_cons_succ]
  refine wpAnyH_done (by kernel_rfl) ?_ _
  go_wp2
  go_ret
  exact ⟨rfl, B0.trans (hb3.mono B0.size)⟩
set_option maxHeartbeats 4000000 in
theorem claimTI (q r c b p h : Int) (w : World) (hq : I64 q) (hr : I64 r) (hc : I64 c) (hb : I64 b) (hp : I64 p) (hh : I64 h) (htab : TabOk w) :
    Calls Tryz.prog 61 #[.int .i64 q, .agg #[.int .i64 r, .int .i64 c, .int .i64 b, .int .i64 p], .int .i64 h] w fun e w' => e = .returned (.string (cText q r c b p h)) ∧ Below w.heap.size w w' := by
  unfold cText
  obtain ⟨V, hV⟩ : ∃ V, vText r c b p = V := ⟨_, rfl⟩
  have zV := vText_size hr hc hb hp
  rw [hV] at zV ⊢
  replace hV : Hid _ := hV
  obtain ⟨x, hx⟩ : ∃ x, x = w.alloc (Obj.cells #[.int .i64 r, .int .i64 c, .int .i64 b, .int .i64 p] 25) := ⟨_, rfl⟩
  have A0 : VecAt x w.heap.size r c b p := by rw [hx]; exact vecAt_box w _ _ _ _ _
  have B0 : Below w.heap.size w x := by rw [hx]; exact below_box w _
  have S0 : w.heap.size < x.heap.size := by rw [hx]; exact size_box w _
  have z0 := dig_size hq.1 hq.2
  have z1 := dig_size hh.1 hh.2
  have hlen : (Lib.join ([⟨#[99, 108, 97, 105, 109]⟩, dig q, V, dig h].map (·.data.toList)) [32]).length ≤ 140737488355328 := by
    rw [List.map_cons, Lib.join_length]
    simp only [List.map_cons, List.map_nil, Lib.lens, List.length_cons, List.length_nil, List.sum_cons, List.sum_nil]
    have e : ∀ d : ByteArray, d.data.toList.length = d.size := fun d => Array.length_toList
    simp only [e]
    omega
  go_enter Tryz.func61, Tryz.ntmps61
  go_upto_region 1 with fail
  rw [← hx]
  clear hx
  refine wp_region_held (S := fun Y => Below x.heap.size x Y) (by kernel_rfl) ?_
  change wpAnyH _ _ _ _ _ _ _ _ (World.drew _)
  have hb0 : Below x.heap.size x x.drew := (Below.refl _ _).drew
  obtain ⟨u0, hy0⟩ : ∃ y_, y_ = x.drew := ⟨_, rfl⟩
  rw [← hy0] at hb0 ⊢
  clear hy0
  refine takeW 0 7 (.int .i64 q) rfl rfl (by kernel_rfl) (by kernel_rfl) (by kernel_rfl) (fun _ _ _ h => h) (by kernel_rfl) (by (intro w hSw; go_simp)) (by assumption) ?_
  simp only [List.set_cons_zero, List.set_cons_succ]
  refine takeW 2 9 (.agg #[.int .i64 r, .int .i64 c, .int .i64 b, .int .i64 p]) rfl rfl (by kernel_rfl) (by kernel_rfl) (by kernel_rfl) (fun _ _ _ h => h) (by kernel_rfl) (by (intro Y hSw; obtain ⟨C1, C2, C3, C4⟩ := A0.below hSw (by omega); go_simp)) (by assumption) ?_
  simp only [List.set_cons_zero, List.set_cons_succ]
  refine takeW 4 11 (.int .i64 h) rfl rfl (by kernel_rfl) (by kernel_rfl) (by kernel_rfl) (fun _ _ _ h => h) (by kernel_rfl) (by (intro w hSw; go_simp)) (by assumption) ?_
  simp only [List.set_cons_zero, List.set_cons_succ]
  refine wpAnyH_all (rs := [1]) (by kernel_rfl) (by simp) ?_
  intro i hi; obtain rfl : i = 1 := by simpa using hi
  refine wpOp_step rfl (fun K hK => ?_)
  rw [if_pos (by kernel_rfl)]
  go_simp
  go_at_call 99
  refine (digitsImpl q u0 hq.1 hq.2 (tab_later htab (B0.trans (hb0.mono B0.size)))).mono ?_
  rintro e u1 ⟨rfl, kq⟩
  have hb1 : Below x.heap.size x u1 := hb0.trans (kq.mono hb0.size)
  clear kq
  rw [show (⟨(Lib.itoa q).toArray⟩ : ByteArray) = dig q from rfl]
  refine hK _ _ ⟨hb1, ?_⟩
  clear hK K hi
  refine wpAnyH_all (rs := [3]) (by kernel_rfl) (by simp) ?_
  intro i hi; obtain rfl : i = 3 := by simpa using hi
  refine wpOp_step rfl (fun K hK => ?_)
  rw [if_pos (by kernel_rfl)]
  go_simp
  go_at_call 100
  refine (textI r c b p u1 hr hc hb hp (tab_later htab (B0.trans (hb1.mono B0.size)))).mono ?_
  rintro e u2 ⟨rfl, kq⟩
  have hb2 : Below x.heap.size x u2 := hb1.trans (kq.mono hb1.size)
  clear kq
  rw [hV.out]
  refine hK _ _ ⟨hb2, ?_⟩
  clear hK K hi
  refine wpAnyH_all (rs := [5]) (by kernel_rfl) (by simp) ?_
  intro i hi; obtain rfl : i = 5 := by simpa using hi
  refine wpOp_step rfl (fun K hK => ?_)
  rw [if_pos (by kernel_rfl)]
  go_simp
  go_at_call 99
  refine (digitsImpl h u2 hh.1 hh.2 (tab_later htab (B0.trans (hb2.mono B0.size)))).mono ?_
  rintro e u3 ⟨rfl, kq⟩
  have hb3 : Below x.heap.size x u3 := hb2.trans (kq.mono hb2.size)
  clear kq
  rw [show (⟨(Lib.itoa h).toArray⟩ : ByteArray) = dig h from rfl]
  refine hK _ _ ⟨hb3, ?_⟩
  clear hK K hi
  refine wpAnyH_all (rs := [6]) (by kernel_rfl) (by simp) ?_
  intro i hi; obtain rfl : i = 6 := by simpa using hi
  refine wpOp_step rfl (fun K hK => ?_)
  rw [if_pos (by kernel_rfl)]
  go_simp
  obtain ⟨u4, hu4⟩ : ∃ y_, y_ = u3.alloc (Obj.cells #[.string ⟨#[99, 108, 97, 105, 109]⟩, .string (dig q), .string V, .string (dig h)] 9) := ⟨_, rfl⟩
  have hcl : ∀ (j : Nat) y, [⟨#[99, 108, 97, 105, 109]⟩, dig q, V, dig h][j]? = some y → u4.cell? ⟨u3.heap.size, 0 + j, none⟩ = some (.string y) := by
    intro j y hj
    have hj4 : j < 4 := by
      have := (List.getElem?_eq_some_iff.1 hj).1
      simpa using this
    rw [hu4]
    obtain rfl | rfl | rfl | rfl : j = 0 ∨ j = 1 ∨ j = 2 ∨ j = 3 := by omega
    all_goals (simp at hj; subst hj; simp [go_sem])
  have kq : Below u3.heap.size u3 u4 := by rw [hu4]; exact below_box u3 _
  have t4 : u3.heap.size < u4.heap.size := by rw [hu4]; exact size_box u3 _
  have hb4 : Below x.heap.size x u4 := hb3.trans (kq.mono hb3.size)
  rw [← hu4]
  clear hu4 kq
  refine hK _ _ ⟨hb4, ?_⟩
  clear hK K hi
  refine wpAnyH_all (rs := [7]) (by kernel_rfl) (by simp) ?_
  intro i hi; obtain rfl : i = 7 := by simpa using hi
  refine wpOp_step rfl (fun K hK => ?_)
  rw [if_pos (by kernel_rfl)]
  go_simp
  go_at_call 98
  refine (Tryz.strings_Join u3.heap.size 0 4 [⟨#[99, 108, 97, 105, 109]⟩, dig q, V, dig h] ⟨#[32]⟩ u4 hcl t4 (by simp) (by simp) hlen).mono ?_
  rintro e u5 ⟨rfl, kq⟩
  have hb5 : Below x.heap.size x u5 := hb4.trans (kq.mono hb4.size)
  clear kq
  rw [show (⟨(Lib.join ([⟨#[99, 108, 97, 105, 109]⟩, dig q, V, dig h].map (·.data.toList)) (⟨#[32]⟩ : ByteArray).data.toList).toArray⟩ : ByteArray) = ⟨#[99, 108, 97, 105, 109, 32]⟩ ++ dig q ++ ⟨#[32]⟩ ++ V ++ ⟨#[32]⟩ ++ dig h from join_claim q h V]
  refine hK _ _ ⟨hb5, ?_⟩
  clear hK K hi
  refine takeW 8 6 (.string (⟨#[99, 108, 97, 105, 109, 32]⟩ ++ dig q ++ ⟨#[32]⟩ ++ V ++ ⟨#[32]⟩ ++ dig h)) rfl rfl (by kernel_rfl) (by kernel_rfl) (by kernel_rfl) (fun _ _ _ h => h) (by kernel_rfl) (by (intro w hSw; go_simp)) (by assumption) ?_
  simp only [List.set_cons_zero, List.set_cons_succ]
  refine wpAnyH_done (by kernel_rfl) ?_ _
  go_wp2
  go_ret
  exact ⟨rfl, B0.trans (hb5.mono B0.size)⟩
theorem wordIfI (o : Bool) (y n : ByteArray) (w : World) : Calls Tryz.prog 74 #[.bool o, .string y, .string n] w fun e w' => e = .returned (.string (if o then y else n)) ∧ w' = w := by
  cases o
  · go_enter Tryz.func74, Tryz.ntmps74
    go_wp2
    go_ret
    exact ⟨rfl, rfl⟩
  · go_enter Tryz.func74, Tryz.ntmps74
    go_wp2
    go_ret
    exact ⟨rfl, rfl⟩
set_option maxHeartbeats 4000000 in
theorem stateTI (what yes no : ByteArray) (q : Int) (o : Bool) (w : World) (hw : what.size ≤ 100) (hy : yes.size ≤ 100) (hn : no.size ≤ 100) (hq : I64 q) (htab : TabOk w) :
    Calls Tryz.prog 62 #[.string what, .int .i64 q, .bool o, .string yes, .string no] w fun e w' => e = .returned (.string (sText what q (if o then yes else no))) ∧ Below w.heap.size w w' := by
  have z0 := dig_size hq.1 hq.2
  obtain ⟨wo, hwo⟩ : ∃ wo, (if o then yes else no) = wo := ⟨_, rfl⟩
  have hws : wo.size ≤ 100 := by cases o <;> (simp at hwo; subst hwo; assumption)
  have hlen : (Lib.join ([what, dig q, wo].map (·.data.toList)) [32]).length ≤ 140737488355328 := by
    rw [List.map_cons, Lib.join_length]
    simp only [List.map_cons, List.map_nil, Lib.lens, List.length_cons, List.length_nil, List.sum_cons, List.sum_nil]
    have e : ∀ d : ByteArray, d.data.toList.length = d.size := fun d => Array.length_toList
    simp only [e]
    omega
  rw [hwo]
  replace hwo : Hid _ := hwo
  go_enter Tryz.func62, Tryz.ntmps62
  go_wp2_with fail
  go_at_call 99
  refine (digitsImpl q w hq.1 hq.2 htab).mono ?_
  rintro e u1 ⟨rfl, k1⟩
  rw [show (⟨(Lib.itoa q).toArray⟩ : ByteArray) = dig q from rfl]
  go_wp2_with fail
  go_at_call 74
  refine (wordIfI o yes no u1).mono ?_
  rintro e u1' ⟨rfl, hu1⟩
  rw [hu1, hwo.out]
  clear hu1 u1'
  obtain ⟨u2, hu2⟩ : ∃ y_, y_ = u1.alloc (Obj.cells #[.string what, .string (dig q), .string wo] 9) := ⟨_, rfl⟩
  have hcl : ∀ (j : Nat) y, [what, dig q, wo][j]? = some y → u2.cell? ⟨u1.heap.size, 0 + j, none⟩ = some (.string y) := by
    intro j y hj
    have hj4 : j < 3 := by
      have := (List.getElem?_eq_some_iff.1 hj).1
      simpa using this
    rw [hu2]
    obtain rfl | rfl | rfl : j = 0 ∨ j = 1 ∨ j = 2 := by omega
    all_goals (simp at hj; subst hj; simp [go_sem])
  have k2 : Below u1.heap.size u1 u2 := by rw [hu2]; exact below_box u1 _
  have t2 : u1.heap.size < u2.heap.size := by rw [hu2]; exact size_box u1 _
  have B2 := k1.trans (k2.mono k1.size)
  go_wp2_with fail
  go_at_call 98
  rw [← hu2]
  clear hu2
  refine (Tryz.strings_Join u1.heap.size 0 3 [what, dig q, wo] ⟨#[32]⟩ u2 hcl t2 (by simp) (by simp) hlen).mono ?_
  rintro e u3 ⟨rfl, k3⟩
  rw [show (⟨(Lib.join ([what, dig q, wo].map (·.data.toList)) (⟨#[32]⟩ : ByteArray).data.toList).toArray⟩ : ByteArray) = sText what q wo from join_state what wo q]
  go_wp2
  go_ret
  exact ⟨rfl, B2.trans (k3.mono B2.size)⟩

end Go.Proofs.YthgcbihhdbpbdaaGreatDoor
