/- Both VecText, walked. -/
import Derived.Test.YthgcbihhdbpbdaaGreatDoorRows
import Derived.WalkKit
import Derived.ProofKit
import Derived.OpenShut
import Derived.ShutString
import Derived.ChangeOld
import Derived.Below
import Derived.Deep.QuietTactic
import Derived.BigQuiet
import Derived.WalkSmall
import Derived.Laws.OwnMore
import Derived.WalkSpells
import Derived.WalkLawsBesides
import Derived.Lib.ItoaLen
import Derived.Lib.LaidTab
import Derived.Lib.SmallJoins
import Derived.Deep.RegionHeld
import Derived.Test.YthgcbihhdbpbdaaGreatDoorM1
import Derived.Test.YthgcbihhdbpbdaaGreatDoorM2
namespace Go.Proofs.YthgcbihhdbpbdaaGreatDoor
open Go.ChangeShapes Go.WideShapes Go.ChangeAt Go.RowKit
open Go.ChangeMaps (open_string shut_string)
set_option linter.unusedVariables false
set_option maxRecDepth 100000

theorem gTab : Tryz.prog.globalNamed "internal/strconv.uint64pow10" = some 3 := by kernel_rfl
def TabOk (w : World) : Prop := Lib.TabIs Tryz.prog w "internal/strconv.uint64pow10" .u64 Lib.pow10Tab
theorem tab_later {w w' : World} (h : TabOk w) (hb : Below w.heap.size w w') : TabOk w' := Joins.tab_stays gTab h hb (Nat.le_refl _)

/-- The numeral of a number, as text. -/
def dig (n : Int) : ByteArray := ⟨(Lib.itoa n).toArray⟩
theorem dig_size {n : Int} (h0 : -9223372036854775808 ≤ n) (h1 : n ≤ 9223372036854775807) : (dig n).size ≤ 21 := by
  have := Lib.itoa_length_le n h0 h1
  unfold dig
  show (Lib.itoa n).toArray.size ≤ 21
  simpa using this
/-- The text of a claim. -/
def vText (r c b p : Int) : ByteArray := dig r ++ ⟨#[46]⟩ ++ dig c ++ ⟨#[46]⟩ ++ dig b ++ ⟨#[46]⟩ ++ dig p
def I64 (n : Int) : Prop := -9223372036854775808 ≤ n ∧ n ≤ 9223372036854775807

set_option maxHeartbeats 4000000 in
theorem textS (r c b p : Int) (w : World) (hr : I64 r) (hc : I64 c) (hb : I64 b) (hp : I64 p) :
    Calls Tryz.prog 77 #[.agg #[.int .i64 r, .int .i64 c, .int .i64 b, .int .i64 p]] w fun e w' => e = .returned (.string (vText r c b p)) ∧ Below w.heap.size w w' := by
  obtain ⟨x, hx⟩ : ∃ x, x = w.alloc (Obj.cells #[.int .i64 r, .int .i64 c, .int .i64 b, .int .i64 p] 25) := ⟨_, rfl⟩
  obtain ⟨P, hP⟩ : ∃ P, P = w.heap.size := ⟨_, rfl⟩
  have A0 : VecAt x P r c b p := by rw [hx, hP]; exact vecAt_box w _ _ _ _ _
  have B0 : Below w.heap.size w x := by rw [hx]; exact below_box w _
  have S0 : P < x.heap.size := by rw [hx, hP]; exact size_box w _
  have z0 := dig_size hr.1 hr.2
  have z1 := dig_size hc.1 hc.2
  have z2 := dig_size hb.1 hb.2
  have z3 := dig_size hp.1 hp.2
  have q1 : ¬ 9223372036854775807 < (dig r).size + 1 := by omega
  have q2 : ¬ 9223372036854775807 < (dig r).size + 1 + (dig c).size := by omega
  have q3 : ¬ 9223372036854775807 < (dig r).size + 1 + (dig c).size + 1 := by omega
  have q4 : ¬ 9223372036854775807 < (dig r).size + 1 + (dig c).size + 1 + (dig b).size := by omega
  have q5 : ¬ 9223372036854775807 < (dig r).size + 1 + (dig c).size + 1 + (dig b).size + 1 := by omega
  have q6 : ¬ 9223372036854775807 < (dig r).size + 1 + (dig c).size + 1 + (dig b).size + 1 + (dig p).size := by omega
  go_enter Tryz.func77, Tryz.ntmps77
  go_wp2
  rw [← hx, ← hP]
  clear hx hP
  refine wp_region_held (S := fun Y => Below x.heap.size x Y) (by kernel_rfl) ?_
  change wpAnyH _ _ _ _ _ _ _ _ (World.drew _)
  have hb0 : Below x.heap.size x x.drew := (Below.refl _ _).drew
  obtain ⟨y0, hy0⟩ : ∃ y, y = x.drew := ⟨_, rfl⟩
  rw [← hy0] at hb0 ⊢
  clear hy0
  refine takeW 0 3 (.pointer (some ⟨P, 0, none⟩)) rfl rfl (by kernel_rfl) (by kernel_rfl) (by kernel_rfl) (fun _ _ _ h => h) (by kernel_rfl) (by (intro w hSw; go_simp)) (by assumption) ?_
  simp only [List.set_cons_zero, List.set_cons_succ]
  refine takeW 1 4 (.int .i64 r) rfl rfl (by kernel_rfl) (by kernel_rfl) (by kernel_rfl) (fun _ _ _ h => h) (by kernel_rfl) (by (intro Y hSw; obtain ⟨C1, C2, C3, C4⟩ := A0.below hSw (by omega); go_simp)) (by assumption) ?_
  simp only [List.set_cons_zero, List.set_cons_succ]
  refine takeW 4 7 (.pointer (some ⟨P, 1, none⟩)) rfl rfl (by kernel_rfl) (by kernel_rfl) (by kernel_rfl) (fun _ _ _ h => h) (by kernel_rfl) (by (intro w hSw; go_simp)) (by assumption) ?_
  simp only [List.set_cons_zero, List.set_cons_succ]
  refine takeW 5 8 (.int .i64 c) rfl rfl (by kernel_rfl) (by kernel_rfl) (by kernel_rfl) (fun _ _ _ h => h) (by kernel_rfl) (by (intro Y hSw; obtain ⟨C1, C2, C3, C4⟩ := A0.below hSw (by omega); go_simp)) (by assumption) ?_
  simp only [List.set_cons_zero, List.set_cons_succ]
  refine takeW 9 12 (.pointer (some ⟨P, 2, none⟩)) rfl rfl (by kernel_rfl) (by kernel_rfl) (by kernel_rfl) (fun _ _ _ h => h) (by kernel_rfl) (by (intro w hSw; go_simp)) (by assumption) ?_
  simp only [List.set_cons_zero, List.set_cons_succ]
  refine takeW 10 13 (.int .i64 b) rfl rfl (by kernel_rfl) (by kernel_rfl) (by kernel_rfl) (fun _ _ _ h => h) (by kernel_rfl) (by (intro Y hSw; obtain ⟨C1, C2, C3, C4⟩ := A0.below hSw (by omega); go_simp)) (by assumption) ?_
  simp only [List.set_cons_zero, List.set_cons_succ]
  refine takeW 14 17 (.pointer (some ⟨P, 3, none⟩)) rfl rfl (by kernel_rfl) (by kernel_rfl) (by kernel_rfl) (fun _ _ _ h => h) (by kernel_rfl) (by (intro w hSw; go_simp)) (by assumption) ?_
  simp only [List.set_cons_zero, List.set_cons_succ]
  refine takeW 15 18 (.int .i64 p) rfl rfl (by kernel_rfl) (by kernel_rfl) (by kernel_rfl) (fun _ _ _ h => h) (by kernel_rfl) (by (intro Y hSw; obtain ⟨C1, C2, C3, C4⟩ := A0.below hSw (by omega); go_simp)) (by assumption) ?_
  simp only [List.set_cons_zero, List.set_cons_succ]
  refine wpAnyH_all (rs := [2]) (by kernel_rfl) (by simp) ?_
  intro i hi; obtain rfl : i = 2 := by simpa using hi
  refine wpOp_step rfl (fun K hK => ?_)
  rw [if_pos (by kernel_rfl)]
  go_simp
  go_at_call 64
  refine (digitsSpec r y0 hr.1 hr.2).mono ?_
  rintro e y1 ⟨rfl, kq⟩
  have hb1 : Below x.heap.size x y1 := hb0.trans (kq.mono hb0.size)
  clear kq
  rw [show (⟨(Lib.itoa r).toArray⟩ : ByteArray) = dig r from rfl]
  refine hK _ _ ⟨hb1, ?_⟩
  clear hK K hi
  refine takeW 3 6 (.string (dig r ++ ⟨#[46]⟩)) rfl rfl (by kernel_rfl) (by kernel_rfl) (by kernel_rfl) (fun _ _ _ h => h) (by kernel_rfl) (by (intro w hSw; go_simp)) (by assumption) ?_
  simp only [List.set_cons_zero, List.set_cons_succ]
  refine wpAnyH_all (rs := [6]) (by kernel_rfl) (by simp) ?_
  intro i hi; obtain rfl : i = 6 := by simpa using hi
  refine wpOp_step rfl (fun K hK => ?_)
  rw [if_pos (by kernel_rfl)]
  go_simp
  go_at_call 64
  refine (digitsSpec c y1 hc.1 hc.2).mono ?_
  rintro e y2 ⟨rfl, kq⟩
  have hb2 : Below x.heap.size x y2 := hb1.trans (kq.mono hb1.size)
  clear kq
  rw [show (⟨(Lib.itoa c).toArray⟩ : ByteArray) = dig c from rfl]
  refine hK _ _ ⟨hb2, ?_⟩
  clear hK K hi
  refine takeW 7 10 (.string (dig r ++ ⟨#[46]⟩ ++ dig c)) rfl rfl (by kernel_rfl) (by kernel_rfl) (by kernel_rfl) (fun _ _ _ h => h) (by kernel_rfl) (by (intro w hSw; go_simp)) (by assumption) ?_
  simp only [List.set_cons_zero, List.set_cons_succ]
  refine takeW 8 11 (.string (dig r ++ ⟨#[46]⟩ ++ dig c ++ ⟨#[46]⟩)) rfl rfl (by kernel_rfl) (by kernel_rfl) (by kernel_rfl) (fun _ _ _ h => h) (by kernel_rfl) (by (intro w hSw; go_simp)) (by assumption) ?_
  simp only [List.set_cons_zero, List.set_cons_succ]
  refine wpAnyH_all (rs := [11]) (by kernel_rfl) (by simp) ?_
  intro i hi; obtain rfl : i = 11 := by simpa using hi
  refine wpOp_step rfl (fun K hK => ?_)
  rw [if_pos (by kernel_rfl)]
  go_simp
  go_at_call 64
  refine (digitsSpec b y2 hb.1 hb.2).mono ?_
  rintro e y3 ⟨rfl, kq⟩
  have hb3 : Below x.heap.size x y3 := hb2.trans (kq.mono hb2.size)
  clear kq
  rw [show (⟨(Lib.itoa b).toArray⟩ : ByteArray) = dig b from rfl]
  refine hK _ _ ⟨hb3, ?_⟩
  clear hK K hi
  refine takeW 12 15 (.string (dig r ++ ⟨#[46]⟩ ++ dig c ++ ⟨#[46]⟩ ++ dig b)) rfl rfl (by kernel_rfl) (by kernel_rfl) (by kernel_rfl) (fun _ _ _ h => h) (by kernel_rfl) (by (intro w hSw; go_simp)) (by assumption) ?_
  simp only [List.set_cons_zero, List.set_cons_succ]
  refine takeW 13 16 (.string (dig r ++ ⟨#[46]⟩ ++ dig c ++ ⟨#[46]⟩ ++ dig b ++ ⟨#[46]⟩)) rfl rfl (by kernel_rfl) (by kernel_rfl) (by kernel_rfl) (fun _ _ _ h => h) (by kernel_rfl) (by (intro w hSw; go_simp)) (by assumption) ?_
  simp only [List.set_cons_zero, List.set_cons_succ]
  refine wpAnyH_all (rs := [16]) (by kernel_rfl) (by simp) ?_
  intro i hi; obtain rfl : i = 16 := by simpa using hi
  refine wpOp_step rfl (fun K hK => ?_)
  rw [if_pos (by kernel_rfl)]
  go_simp
  go_at_call 64
  refine (digitsSpec p y3 hp.1 hp.2).mono ?_
  rintro e y4 ⟨rfl, kq⟩
  have hb4 : Below x.heap.size x y4 := hb3.trans (kq.mono hb3.size)
  clear kq
  rw [show (⟨(Lib.itoa p).toArray⟩ : ByteArray) = dig p from rfl]
  refine hK _ _ ⟨hb4, ?_⟩
  clear hK K hi
  refine takeW 17 20 (.string (dig r ++ ⟨#[46]⟩ ++ dig c ++ ⟨#[46]⟩ ++ dig b ++ ⟨#[46]⟩ ++ dig p)) rfl rfl (by kernel_rfl) (by kernel_rfl) (by kernel_rfl) (fun _ _ _ h => h) (by kernel_rfl) (by (intro w hSw; go_simp)) (by assumption) ?_
  simp only [List.set_cons_zero, List.set_cons_succ]
  refine takeW 18 2 (.string (dig r ++ ⟨#[46]⟩ ++ dig c ++ ⟨#[46]⟩ ++ dig b ++ ⟨#[46]⟩ ++ dig p)) rfl rfl (by kernel_rfl) (by kernel_rfl) (by kernel_rfl) (fun _ _ _ h => h) (by kernel_rfl) (by (intro w hSw; go_simp)) (by assumption) ?_
  simp only [List.set_cons_zero, List.set_cons_succ]
  refine wpAnyH_done (by kernel_rfl) ?_ _
  go_wp2
  go_ret
  exact ⟨rfl, B0.trans (hb4.mono B0.size)⟩

/-- The array of the four texts, k of them written. -/
def TxtAt (w : World) (q : Nat) (r c b p : Int) (k : Nat) : Prop := ∀ j, j < 4 → w.cell? ⟨q, j, none⟩ = some (.string (if j < k then dig (prt r c b p j) else ⟨#[]⟩)) ∧ w.frozen? ⟨q, j, none⟩ = false
theorem TxtAt.below {w w' : World} {q n : Nat} {r c b p : Int} {k : Nat} (h : TxtAt w q r c b p k) (g : Below n w w') (hq : q < n) : TxtAt w' q r c b p k :=
  fun j hj => ⟨(g.cell (p := ⟨q, j, none⟩) hq).trans (h j hj).1, (World.frozen?_of_block (a := ⟨q, j, none⟩) (g.block q hq)).trans (h j hj).2⟩
theorem TxtAt.step {w : World} {q : Nat} {r c b p : Int} {k : Nat} (h : TxtAt w q r c b p k) (hk : k < 4) : TxtAt (w.setCell ⟨q, k, none⟩ (.string (dig (prt r c b p k)))) q r c b p (k + 1) := by
  intro j hj
  refine ⟨?_, by rw [World.frozen?_setCell]; exact (h j hj).2⟩
  by_cases e : j = k
  · subst e
    rw [if_pos (by omega)]
    exact World.cell?_setCell_same' _ _ _ (by rw [(h j hj).1]; rfl)
  · have := (h j hj).1
    rw [cell_set_ne e, this]
    congr 2
    by_cases h2 : j < k
    · rw [if_pos h2, if_pos (by omega)]
    · rw [if_neg h2, if_neg (by omega)]
theorem VecAt.setOther {w : World} {q q' k : Nat} {r c b p : Int} {v : Value} (h : VecAt w q r c b p) (hne : q ≠ q') : VecAt (w.setCell ⟨q', k, none⟩ v) q r c b p := by
  have e : ∀ i, (w.setCell ⟨q', k, none⟩ v).cell? ⟨q, i, none⟩ = w.cell? ⟨q, i, none⟩ := fun i => World.cell?_setCell_other _ _ _ _ (by intro h; apply hne; exact (congrArg Addr.block h).symm)
  exact ⟨(e 0).trans h.1, (e 1).trans h.2.1, (e 2).trans h.2.2.1, (e 3).trans h.2.2.2⟩
theorem join4 (r c b p : Int) : (⟨(Lib.join ([dig r, dig c, dig b, dig p].map (·.data.toList)) [46]).toArray⟩ : ByteArray) = vText r c b p := by
  apply ByteArray.ext
  unfold vText
  simp [Lib.join, List.intercalate, ByteArray.data_append]
theorem prt_wf {r c b p : Int} (hr : I64 r) (hc : I64 c) (hb : I64 b) (hp : I64 p) (k : Nat) : I64 (prt r c b p k) := by
  unfold prt
  split
  · exact hr
  · split
    · exact hc
    · split
      · exact hb
      · exact hp

set_option maxHeartbeats 8000000 in
theorem textI (r c b p : Int) (w : World) (hr : I64 r) (hc : I64 c) (hb : I64 b) (hp : I64 p) (htab : TabOk w) :
    Calls Tryz.prog 100 #[.agg #[.int .i64 r, .int .i64 c, .int .i64 b, .int .i64 p]] w fun e w' => e = .returned (.string (vText r c b p)) ∧ Below w.heap.size w w' := by
  have hlen : (Lib.join ([dig r, dig c, dig b, dig p].map (·.data.toList)) [46]).length ≤ 140737488355328 := by
    have z0 := dig_size hr.1 hr.2
    have z1 := dig_size hc.1 hc.2
    have z2 := dig_size hb.1 hb.2
    have z3 := dig_size hp.1 hp.2
    rw [List.map_cons, Lib.join_length]
    simp only [List.map_cons, List.map_nil, Lib.lens, List.length_cons, List.length_nil, List.sum_cons, List.sum_nil]
    have e : ∀ d : ByteArray, d.data.toList.length = d.size := fun d => Array.length_toList
    simp only [e]
    omega
  obtain ⟨x, hx⟩ : ∃ x, x = (w.alloc (Obj.cells #[.int .i64 r, .int .i64 c, .int .i64 b, .int .i64 p] 25)).alloc (Obj.cells #[.string ⟨#[]⟩, .string ⟨#[]⟩, .string ⟨#[]⟩, .string ⟨#[]⟩] 197) := ⟨_, rfl⟩
  obtain ⟨P, hP⟩ : ∃ P, P = w.heap.size := ⟨_, rfl⟩
  have A0 : VecAt x P r c b p := by rw [hx, hP]; refine ⟨?_, ?_, ?_, ?_⟩ <;> simp [go_sem]
  have T0 : TxtAt x (P + 1) r c b p 0 := by
    intro j hj
    rw [hx, hP]
    obtain rfl | rfl | rfl | rfl : j = 0 ∨ j = 1 ∨ j = 2 ∨ j = 3 := by omega
    · exact ⟨by simp [go_sem], by simp [go_sem]⟩
    · exact ⟨by simp [go_sem], by simp [go_sem]⟩
    · exact ⟨by simp [go_sem], by simp [go_sem]⟩
    · exact ⟨by simp [go_sem], by simp [go_sem]⟩
  have B0 : Below w.heap.size w x := by rw [hx]; exact ((Below.refl _ _).alloc (Nat.le_refl _) _).alloc (by simp) _
  have S0 : P + 1 < x.heap.size := by rw [hx, hP]; simp
  have hPw : w.heap.size ≤ P := by omega
  go_enter Tryz.func100, Tryz.ntmps100
  go_wp2
  rw [← hx, ← hP]
  clear hx hP
  go_loopw [5] (fun i wr => ∃ k : Nat, k ≤ 4 ∧ i = .int .i64 (k : Int) ∧ TxtAt wr (P + 1) r c b p k ∧ VecAt wr P r c b p ∧ Below w.heap.size w wr ∧ P + 1 < wr.heap.size) (fun i _ => 4 - (intOf i).toNat)
  case atStart => exact ⟨0, by omega, rfl, T0, A0, B0, S0⟩
  case round =>
    obtain ⟨k, hk, rfl, hT, hA, hB, hS⟩ := hrel
    clear T0 A0 B0 S0
    by_cases hlt : k < 4
    · have hlt' : (k : Int) < 4 := by omega
      obtain ⟨C1, C2, C3, C4⟩ := hA
      go_wp2_with fail
      go_at_call 122
      refine (partI r c b p k _ hlt).mono ?_
      rintro e w1 ⟨rfl, k1⟩
      have s1 := k1.size
      have B1 := hB.trans (k1.mono hB.size)
      have A1 : VecAt w1 P r c b p := VecAt.below ⟨C1, C2, C3, C4⟩ k1 (by omega)
      have T1 := hT.below k1 hS
      clear hT C1 C2 C3 C4
      go_wp2_with fail
      go_at_call 99
      have hq := prt_wf hr hc hb hp k
      refine (digitsImpl (prt r c b p k) w1 hq.1 hq.2 (tab_later htab B1)).mono ?_
      rintro e w2 ⟨rfl, k2⟩
      rw [show (⟨(Lib.itoa (prt r c b p k)).toArray⟩ : ByteArray) = dig (prt r c b p k) from rfl]
      have s2 := k2.size
      have B2 := B1.trans (k2.mono B1.size)
      have A2 := A1.below k2 (by omega)
      have T2 := T1.below k2 (by omega)
      clear T1 A1
      obtain ⟨c1, f1⟩ := T2 k hlt
      have hk0 : (0 : Int) ≤ (k : Int) := by omega
      have T3 := T2.step hlt
      have hkn : (k : Int).toNat = k := by omega
      go_wp2
      go_roundw
      case rel => exact ⟨k + 1, by omega, by simp, T3, A2.setOther (by omega), B2.setCell (by show w.heap.size ≤ P + 1; omega) _, by simp; omega⟩
      case measure => simp [intOf]; omega
    · obtain rfl : k = 4 := by omega
      have hcells : ∀ (j : Nat) x, [dig r, dig c, dig b, dig p][j]? = some x → wr.cell? ⟨P + 1, 0 + j, none⟩ = some (.string x) := by
        intro j x hj
        have hj4 : j < 4 := by
          have := (List.getElem?_eq_some_iff.1 hj).1
          simpa using this
        rw [Nat.zero_add, (hT j hj4).1, if_pos hj4]
        obtain rfl | rfl | rfl | rfl : j = 0 ∨ j = 1 ∨ j = 2 ∨ j = 3 := by omega
        all_goals (simp at hj; subst hj; rfl)
      go_wp2_with fail
      go_at_call 98
      refine (Tryz.strings_Join (P + 1) 0 4 [dig r, dig c, dig b, dig p] ⟨#[46]⟩ wr hcells hS (by simp) (by simp) hlen).mono ?_
      rintro e w1 ⟨rfl, k1⟩
      rw [show (⟨(Lib.join ([dig r, dig c, dig b, dig p].map (·.data.toList)) (⟨#[46]⟩ : ByteArray).data.toList).toArray⟩ : ByteArray) = vText r c b p from join4 r c b p]
      go_wp2
      go_ret
      exact ⟨rfl, hB.trans (k1.mono hB.size)⟩

end Go.Proofs.YthgcbihhdbpbdaaGreatDoor
