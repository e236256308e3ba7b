/- Contracts of both PutNum. -/
import Derived.Test.YtlnogijlfompoaaDoorRows
import Derived.WalkKit
import Derived.ProofKit
import Derived.OpenShut
import Derived.ShutString
import Derived.ChangeOld
import Derived.Below
import Derived.Deep.QuietTactic
import Derived.BigQuiet
import Derived.WalkSmall
import Derived.Laws.OwnMore
import Derived.WalkSpells
import Derived.Test.YtlnogijlfompoaaDoorBase
import Derived.Test.YtlnogijlfompoaaDoorIn
namespace Go.Proofs.YtlnogijlfompoaaDoor
open Go.ChangeShapes Go.WideShapes Go.ChangeAt Go.RowKit
open Go.ChangeMaps (open_string shut_string)
set_option linter.unusedVariables false
set_option maxRecDepth 100000

/-- One byte more behind a row that the call owns. -/
theorem own_push {w wr w1 : World} {B E : Nat} {o : Obj} {v v' : Value} {pre : List Int} {x : Int} (hown : wr.ownsRow B E 1 v pre.length (pre.map (Value.int .u8)))
    (hown' : w1.ownsRow B E 1 v' (pre.length + 1) (pre.map (Value.int .u8) ++ [Value.int .u8 x])) (hgrow : (wr.alloc o).grownBy w1 v.ownBlock) (hbel : Below B w wr) (hB : B ≤ w.heap.size) :
    w1.ownsRow B E 1 v' (pre ++ [x]).length ((pre ++ [x]).map (Value.int .u8)) ∧ Below B w w1 := by
  refine ⟨by simpa using hown', ?_⟩
  have hs := hbel.size
  refine (hbel.alloc (by omega) o).grown hgrow (by simp; omega) ?_
  intro k hk
  rcases hown.2 with ⟨rfl, _⟩ | ⟨g, cap, cur, rfl, hb, _⟩
  · simp [Value.ownBlock] at hk
  · simp [Value.ownBlock] at hk; omega

/-- The bytes of a number, seven bits a byte, the low ones first. -/
def putF : Nat → Nat → List Int
  | 0, m => [(m : Int)]
  | f + 1, m => if m ≤ 127 then [(m : Int)] else ((m : Int) % 128 + 128) :: putF f (m / 128)
theorem putF_any : ∀ (f g m : Nat), m ≤ f → m ≤ g → putF f m = putF g m
  | 0, 0, m, _, _ => rfl
  | 0, g + 1, m, h, _ => by
    have e : m = 0 := by omega
    subst e
    rfl
  | f + 1, 0, m, _, h => by
    have e : m = 0 := by omega
    subst e
    rfl
  | f + 1, g + 1, m, h1, h2 => by
    unfold putF
    by_cases h : m ≤ 127
    · rw [if_pos h, if_pos h]
    · rw [if_neg h, if_neg h, putF_any f g (m / 128) (by omega) (by omega)]
def put (m : Nat) : List Int := putF m m
theorem put_lo {m : Nat} (h : m ≤ 127) : put m = [(m : Int)] := by
  unfold put
  cases m with
  | zero => rfl
  | succ k =>
    unfold putF
    rw [if_pos h]
theorem put_hi {m : Nat} (h : ¬ m ≤ 127) : put m = ((m : Int) % 128 + 128) :: put (m / 128) := by
  unfold put
  cases m with
  | zero => exact absurd (Nat.zero_le _) h
  | succ k =>
    rw [putF_any ((k + 1) / 128) k ((k + 1) / 128) (Nat.le_refl _) (by omega)]
    conv => lhs; unfold putF
    rw [if_neg h]
theorem put_len (m : Nat) : 1 ≤ (put m).length ∧ (put m).length ≤ m + 1 := by
  induction m using Nat.strongRecOn with
  | ind m ih =>
    by_cases h : m ≤ 127
    · rw [put_lo h]; simp
    · rw [put_hi h]; have := ih (m / 128) (by omega); simp; omega
theorem put_short {m : Nat} (h : m ≤ 2147483647) : (put m).length ≤ 5 := by
  by_cases h0 : m ≤ 127
  · rw [put_lo h0]; simp
  · rw [put_hi h0, List.length_cons]
    by_cases h1 : m / 128 ≤ 127
    · rw [put_lo h1]; simp
    · rw [put_hi h1, List.length_cons]
      by_cases h2 : m / 128 / 128 ≤ 127
      · rw [put_lo h2]; simp
      · rw [put_hi h2, List.length_cons]
        by_cases h3 : m / 128 / 128 / 128 ≤ 127
        · rw [put_lo h3]; simp
        · rw [put_hi h3, List.length_cons, put_lo (by omega)]; simp
/-- What PutNum hands back. -/
def putZ (n : Int) : List Int := if 0 ≤ n ∧ n ≤ 2147483647 then put n.toNat else []
theorem putZ_len (n : Int) : (putZ n).length ≤ 5 := by
  unfold putZ
  split
  · exact put_short (by omega)
  · simp
theorem Tryd.info5 : (Tryd.prog.info? 5).map (fun i => (i.zero, i.size, i.bytes)) = some (some (.int .u8 0), 1, 1) := by kernel_rfl
set_option maxHeartbeats 1000000 in
theorem putImpl (n : Int) (w : World) (hn : (Lit.int .i64 n).wf = true) :
    Calls Tryd.prog 58 #[.int .i64 n] w fun e w' => ∃ v, e = .returned v ∧ w'.ownsRow w.heap.size 5 1 v (putZ n).length ((putZ n).map (Value.int .u8)) ∧ Below w.heap.size w w' := by
  obtain ⟨i0, hi, hz0, hz1, hz2⟩ := info_parts Tryd.info5
  by_cases h0 : n < 0
  · have e : putZ n = [] := by unfold putZ; rw [if_neg (by omega)]
    go_enter Tryd.func58, Tryd.ntmps58
    go_wp2
    go_ret
    exact ⟨.slice none 0 0, rfl, by first | exact World.ownsRow_nil _ _ _ _ | (rw [e]; exact World.ownsRow_nil _ _ _ _), Below.refl _ _⟩
  by_cases h1 : 2147483647 < n
  · have e : putZ n = [] := by unfold putZ; rw [if_neg (by omega)]
    go_enter Tryd.func58, Tryd.ntmps58
    go_wp2
    go_ret
    exact ⟨.slice none 0 0, rfl, by first | exact World.ownsRow_nil _ _ _ _ | (rw [e]; exact World.ownsRow_nil _ _ _ _), Below.refl _ _⟩
  have e : putZ n = put n.toNat := by unfold putZ; rw [if_pos (by omega)]
  rw [e]
  clear e
  have hn0 : 0 ≤ n := by omega
  have hn1 : n ≤ 2147483647 := by omega
  have hN : Hid ((put n.toNat).length ≤ 5) := put_short (by omega)
  have hd0 : decide (n < 0) = false := by simp; omega
  have hd1 : decide (2147483647 < n) = false := by simp; omega
  clear h0 h1
  go_enter Tryd.func58, Tryd.ntmps58
  go_wp2
  go_loopw [0, 3] (fun x v wr => ∃ (m : Int) (pre : List Int), 0 ≤ m ∧ m ≤ n ∧ x = .int .i64 m ∧ Hid (pre ++ put m.toNat = put n.toNat) ∧ wr.ownsRow w.heap.size 5 1 v pre.length (pre.map (Value.int .u8)) ∧ Below w.heap.size w wr) (fun x _ _ => (intOf x).toNat)
  case atStart => exact ⟨n, [], hn0, by omega, rfl, rfl, World.ownsRow_nil _ _ _ _, Below.refl _ _⟩
  case round =>
    obtain ⟨m, pre, hm0, hm, rfl, hpre, hown, hbel⟩ := hrel
    have hpl : pre.length ≤ 5 := by have := congrArg List.length hpre.out; rw [List.length_append] at this; have := hN.out; omega
    by_cases hlt : 127 < m
    · have HP : Hid (pre ++ [(m % 128 + 128)] ++ put (m / 128).toNat = put n.toNat) := by rw [← hpre.out, put_hi (by omega : ¬ m.toNat ≤ 127), show (m / 128).toNat = m.toNat / 128 by omega, show ((m.toNat : Nat) : Int) = m by omega]; simp [Hid]
      clear hpre
      go_wp2_with (first | (at_builtin; refine wpList_append_own _ rfl _ _ 22 rfl w.heap.size 5 i0 (.int .u8 0) 1 1 Tryd.underlying22 hi hz0 hz1 hz2 rfl (by decide) _ _ _ rfl (hown.alloc _) ⟨wr.heap.size, 0, none⟩ 1 1 [.int .u8 (m % 128 + 128)] rfl rfl ?c1 ?c2 ?c3 ?c4 ?c5 ?_) | go_in)
      try case c1 => exact cell_one_new _ _ _
      try case c2 => first | rfl | (intro u hu; simp at hu; subst hu; rfl)
      case c3 => first | omega | (unfold maxLen; omega)
      case c4 => omega
      case c5 => have := hbel.size; first | omega | (simp; omega)
      · intro v' w1 hown' hgrow _
        have R : w1.ownsRow w.heap.size 5 1 v' (pre ++ [(m % 128 + 128)]).length ((pre ++ [(m % 128 + 128)]).map (Value.int .u8)) ∧ Below w.heap.size w w1 := own_push hown hown' hgrow hbel (Nat.le_refl _)
        clear hown' hgrow hown
        go_wp2
        go_roundw
        case rel => exact ⟨m / 128, pre ++ [(m % 128 + 128)], by omega, by omega, rfl, HP, R.1, R.2⟩
        case measure => simp [intOf]; omega
    · have HP : Hid (pre ++ [m] = put n.toNat) := by rw [← hpre.out, put_lo (by omega : m.toNat ≤ 127), show ((m.toNat : Nat) : Int) = m by omega]; rfl
      clear hpre
      go_wp2_with (first | (at_builtin; refine wpList_append_own _ rfl _ _ 22 rfl w.heap.size 5 i0 (.int .u8 0) 1 1 Tryd.underlying22 hi hz0 hz1 hz2 rfl (by decide) _ _ _ rfl (hown.alloc _) ⟨wr.heap.size, 0, none⟩ 1 1 [.int .u8 m] rfl rfl ?d1 ?d2 ?d3 ?d4 ?d5 ?_) | go_in)
      try case d1 => exact cell_one_new _ _ _
      try case d2 => first | rfl | (intro u hu; simp at hu; subst hu; rfl)
      case d3 => first | omega | (unfold maxLen; omega)
      case d4 => omega
      case d5 => have := hbel.size; first | omega | (simp; omega)
      · intro v' w1 hown' hgrow _
        have R : w1.ownsRow w.heap.size 5 1 v' (pre ++ [m]).length ((pre ++ [m]).map (Value.int .u8)) ∧ Below w.heap.size w w1 := own_push hown hown' hgrow hbel (Nat.le_refl _)
        clear hown' hgrow hown
        rw [HP.out] at R
        go_wp2
        go_ret
        exact ⟨_, rfl, R.1, R.2⟩
theorem own_empty (w : World) (E : Nat) : (w.alloc (.cells #[] E)).ownsRow w.heap.size E 1 (.slice (some ⟨w.heap.size, 0, none⟩) 0 0) 0 [] :=
  World.ownsRow_lit w #[] 0 (Nat.le_refl _) (Nat.zero_le _) rfl
set_option maxHeartbeats 1000000 in
theorem putSpec (n : Int) (w : World) (hn : (Lit.int .i64 n).wf = true) :
    Calls Tryd.prog 53 #[.int .i64 n] w fun e w' => ∃ v, e = .returned v ∧ w'.ownsRow w.heap.size 5 1 v (putZ n).length ((putZ n).map (Value.int .u8)) ∧ Below w.heap.size w w' := by
  obtain ⟨i0, hi, hz0, hz1, hz2⟩ := info_parts Tryd.info5
  by_cases h0 : n < 0
  · have e : putZ n = [] := by unfold putZ; rw [if_neg (by omega)]
    go_enter Tryd.func53, Tryd.ntmps53
    go_wp2_with (first | (go_at_call 51; refine (inNo _ _ _ _ (by omega)).mono ?_; rintro e w' ⟨rfl, rfl⟩) | go_in)
    go_ret
    exact ⟨_, rfl, by first | exact own_empty w 5 | (rw [e]; exact own_empty w 5), (Below.refl _ _).alloc (Nat.le_refl _) _⟩
  by_cases h1 : 2147483647 < n
  · have e : putZ n = [] := by unfold putZ; rw [if_neg (by omega)]
    go_enter Tryd.func53, Tryd.ntmps53
    go_wp2_with (first | (go_at_call 51; refine (inNo _ _ _ _ (by omega)).mono ?_; rintro e w' ⟨rfl, rfl⟩) | go_in)
    go_ret
    exact ⟨_, rfl, by first | exact own_empty w 5 | (rw [e]; exact own_empty w 5), (Below.refl _ _).alloc (Nat.le_refl _) _⟩
  have e : putZ n = put n.toNat := by unfold putZ; rw [if_pos (by omega)]
  rw [e]
  clear e
  have hn0 : 0 ≤ n := by omega
  have hn1 : n ≤ 2147483647 := by omega
  have hN : Hid ((put n.toNat).length ≤ 5) := put_short (by omega)
  have hd0 : decide (n < 0) = false := by simp; omega
  have hd1 : decide (2147483647 < n) = false := by simp; omega
  clear h0 h1
  go_enter Tryd.func53, Tryd.ntmps53
  go_wp2_with (first | (go_at_call 51; refine (inYes _ _ _ _ (by omega)).mono ?_; rintro e w' ⟨rfl, rfl⟩) | go_in)
  go_loopw [0, 3] (fun x v wr => ∃ (m : Int) (pre : List Int), 0 ≤ m ∧ m ≤ n ∧ x = .int .i64 m ∧ Hid (pre ++ put m.toNat = put n.toNat) ∧ wr.ownsRow w.heap.size 5 1 v pre.length (pre.map (Value.int .u8)) ∧ Below w.heap.size w wr) (fun x _ _ => (intOf x).toNat)
  case atStart => exact ⟨n, [], hn0, by omega, rfl, rfl, own_empty w 5, (Below.refl _ _).alloc (Nat.le_refl _) _⟩
  case round =>
    obtain ⟨m, pre, hm0, hm, rfl, hpre, hown, hbel⟩ := hrel
    have hpl : pre.length ≤ 5 := by have := congrArg List.length hpre.out; rw [List.length_append] at this; have := hN.out; omega
    by_cases hlt : 127 < m
    · have HP : Hid (pre ++ [(m % 128 + 128)] ++ put (m / 128).toNat = put n.toNat) := by rw [← hpre.out, put_hi (by omega : ¬ m.toNat ≤ 127), show (m / 128).toNat = m.toNat / 128 by omega, show ((m.toNat : Nat) : Int) = m by omega]; simp [Hid]
      clear hpre
      go_wp2_with (first | (at_builtin; refine wpList_append_own _ rfl _ _ 22 rfl w.heap.size 5 i0 (.int .u8 0) 1 1 Tryd.underlying22 hi hz0 hz1 hz2 rfl (by decide) _ _ _ rfl (hown.alloc _) ⟨wr.heap.size, 0, none⟩ 1 1 [.int .u8 (m % 128 + 128)] rfl rfl ?c1 ?c2 ?c3 ?c4 ?c5 ?_) | go_in)
      try case c1 => exact cell_one_new _ _ _
      try case c2 => first | rfl | (intro u hu; simp at hu; subst hu; rfl)
      case c3 => first | omega | (unfold maxLen; omega)
      case c4 => omega
      case c5 => have := hbel.size; first | omega | (simp; omega)
      · intro v' w1 hown' hgrow _
        have R : w1.ownsRow w.heap.size 5 1 v' (pre ++ [(m % 128 + 128)]).length ((pre ++ [(m % 128 + 128)]).map (Value.int .u8)) ∧ Below w.heap.size w w1 := own_push hown hown' hgrow hbel (Nat.le_refl _)
        clear hown' hgrow hown
        go_wp2
        go_roundw
        case rel => exact ⟨m / 128, pre ++ [(m % 128 + 128)], by omega, by omega, rfl, HP, R.1, R.2⟩
        case measure => simp [intOf]; omega
    · have HP : Hid (pre ++ [m] = put n.toNat) := by rw [← hpre.out, put_lo (by omega : m.toNat ≤ 127), show ((m.toNat : Nat) : Int) = m by omega]; rfl
      clear hpre
      go_wp2_with (first | (at_builtin; refine wpList_append_own _ rfl _ _ 22 rfl w.heap.size 5 i0 (.int .u8 0) 1 1 Tryd.underlying22 hi hz0 hz1 hz2 rfl (by decide) _ _ _ rfl (hown.alloc _) ⟨wr.heap.size, 0, none⟩ 1 1 [.int .u8 m] rfl rfl ?d1 ?d2 ?d3 ?d4 ?d5 ?_) | go_in)
      try case d1 => exact cell_one_new _ _ _
      try case d2 => first | rfl | (intro u hu; simp at hu; subst hu; rfl)
      case d3 => first | omega | (unfold maxLen; omega)
      case d4 => omega
      case d5 => have := hbel.size; first | omega | (simp; omega)
      · intro v' w1 hown' hgrow _
        have R : w1.ownsRow w.heap.size 5 1 v' (pre ++ [m]).length ((pre ++ [m]).map (Value.int .u8)) ∧ Below w.heap.size w w1 := own_push hown hown' hgrow hbel (Nat.le_refl _)
        clear hown' hgrow hown
        rw [HP.out] at R
        go_wp2
        go_ret
        exact ⟨_, rfl, R.1, R.2⟩

end Go.Proofs.YtlnogijlfompoaaDoor
