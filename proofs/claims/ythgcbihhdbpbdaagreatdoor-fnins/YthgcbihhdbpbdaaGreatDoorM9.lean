/- Contracts of both PutNum. The four bytes of a sum. Check sums. -/
import Derived.Test.YthgcbihhdbpbdaaGreatDoorRows
import Derived.WalkKit
import Derived.ProofKit
import Derived.OpenShut
import Derived.ShutString
import Derived.ChangeOld
import Derived.Below
import Derived.Deep.QuietTactic
import Derived.BigQuiet
import Derived.WalkSmall
import Derived.Laws.OwnMore
import Derived.WalkSpells
import Derived.Test.YthgcbihhdbpbdaaGreatDoorM2
import Derived.Test.YthgcbihhdbpbdaaGreatDoorM1
import Derived.WalkLawsBesides
import Derived.Laws.AppendOwnNone
namespace Go.Proofs.YthgcbihhdbpbdaaGreatDoor
open Go.ChangeShapes Go.WideShapes Go.ChangeAt Go.RowKit
open Go.ChangeMaps (open_string shut_string)
set_option linter.unusedVariables false
set_option maxRecDepth 100000

/-- One byte more behind a row that the call owns. -/
theorem own_push {w wr w1 : World} {B E : Nat} {o : Obj} {v v' : Value} {pre : List Int} {x : Int} (hown : wr.ownsRow B E 1 v pre.length (pre.map (Value.int .u8)))
    (hown' : w1.ownsRow B E 1 v' (pre.length + 1) (pre.map (Value.int .u8) ++ [Value.int .u8 x])) (hgrow : (wr.alloc o).grownBy w1 v.ownBlock) (hbel : Below B w wr) (hB : B ≤ w.heap.size) :
    w1.ownsRow B E 1 v' (pre ++ [x]).length ((pre ++ [x]).map (Value.int .u8)) ∧ Below B w w1 := by
  refine ⟨by simpa using hown', ?_⟩
  have hs := hbel.size
  refine (hbel.alloc (by omega) o).grown hgrow (by simp; omega) ?_
  intro k hk
  rcases hown.2 with ⟨rfl, _⟩ | ⟨g, cap, cur, rfl, hb, _⟩
  · simp [Value.ownBlock] at hk
  · simp [Value.ownBlock] at hk; omega

/-- The bytes of a number, seven bits a byte, the low ones first. -/
def putF : Nat → Nat → List Int
  | 0, m => [(m : Int)]
  | f + 1, m => if m ≤ 127 then [(m : Int)] else ((m : Int) % 128 + 128) :: putF f (m / 128)
theorem putF_any : ∀ (f g m : Nat), m ≤ f → m ≤ g → putF f m = putF g m
  | 0, 0, m, _, _ => rfl
  | 0, g + 1, m, h, _ => by
    have e : m = 0 := by omega
    subst e
    rfl
  | f + 1, 0, m, _, h => by
    have e : m = 0 := by omega
    subst e
    rfl
  | f + 1, g + 1, m, h1, h2 => by
    unfold putF
    by_cases h : m ≤ 127
    · rw [if_pos h, if_pos h]
    · rw [if_neg h, if_neg h, putF_any f g (m / 128) (by omega) (by omega)]
def put (m : Nat) : List Int := putF m m
theorem put_lo {m : Nat} (h : m ≤ 127) : put m = [(m : Int)] := by
  unfold put
  cases m with
  | zero => rfl
  | succ k =>
    unfold putF
    rw [if_pos h]
theorem put_hi {m : Nat} (h : ¬ m ≤ 127) : put m = ((m : Int) % 128 + 128) :: put (m / 128) := by
  unfold put
  cases m with
  | zero => exact absurd (Nat.zero_le _) h
  | succ k =>
    rw [putF_any ((k + 1) / 128) k ((k + 1) / 128) (Nat.le_refl _) (by omega)]
    conv => lhs; unfold putF
    rw [if_neg h]
theorem put_len (m : Nat) : 1 ≤ (put m).length ∧ (put m).length ≤ m + 1 := by
  induction m using Nat.strongRecOn with
  | ind m ih =>
    by_cases h : m ≤ 127
    · rw [put_lo h]; simp
    · rw [put_hi h]; have := ih (m / 128) (by omega); simp; omega
theorem put_short {m : Nat} (h : m ≤ 2147483647) : (put m).length ≤ 5 := by
  by_cases h0 : m ≤ 127
  · rw [put_lo h0]; simp
  · rw [put_hi h0, List.length_cons]
    by_cases h1 : m / 128 ≤ 127
    · rw [put_lo h1]; simp
    · rw [put_hi h1, List.length_cons]
      by_cases h2 : m / 128 / 128 ≤ 127
      · rw [put_lo h2]; simp
      · rw [put_hi h2, List.length_cons]
        by_cases h3 : m / 128 / 128 / 128 ≤ 127
        · rw [put_lo h3]; simp
        · rw [put_hi h3, List.length_cons, put_lo (by omega)]; simp
/-- What PutNum hands back. -/
def putZ (n : Int) : List Int := if 0 ≤ n ∧ n ≤ 2147483647 then put n.toNat else []
theorem putZ_len (n : Int) : (putZ n).length ≤ 5 := by
  unfold putZ
  split
  · exact put_short (by omega)
  · simp
theorem Tryz.info5 : (Tryz.prog.info? 5).map (fun i => (i.zero, i.size, i.bytes)) = some (some (.int .u8 0), 1, 1) := by kernel_rfl
set_option maxHeartbeats 1000000 in
theorem putImpl (n : Int) (w : World) (hn : (Lit.int .i64 n).wf = true) :
    Calls Tryz.prog 41 #[.int .i64 n] w fun e w' => ∃ v, e = .returned v ∧ w'.ownsRow w.heap.size 5 1 v (putZ n).length ((putZ n).map (Value.int .u8)) ∧ Below w.heap.size w w' := by
  obtain ⟨i0, hi, hz0, hz1, hz2⟩ := info_parts Tryz.info5
  by_cases h0 : n < 0
  · have e : putZ n = [] := by unfold putZ; rw [if_neg (by omega)]
    go_enter Tryz.func41, Tryz.ntmps41
    go_wp2
    go_ret
    exact ⟨.slice none 0 0, rfl, by first | exact World.ownsRow_nil _ _ _ _ | (rw [e]; exact World.ownsRow_nil _ _ _ _), Below.refl _ _⟩
  by_cases h1 : 2147483647 < n
  · have e : putZ n = [] := by unfold putZ; rw [if_neg (by omega)]
    go_enter Tryz.func41, Tryz.ntmps41
    go_wp2
    go_ret
    exact ⟨.slice none 0 0, rfl, by first | exact World.ownsRow_nil _ _ _ _ | (rw [e]; exact World.ownsRow_nil _ _ _ _), Below.refl _ _⟩
  have e : putZ n = put n.toNat := by unfold putZ; rw [if_pos (by omega)]
  rw [e]
  clear e
  have hn0 : 0 ≤ n := by omega
  have hn1 : n ≤ 2147483647 := by omega
  have hN : Hid ((put n.toNat).length ≤ 5) := put_short (by omega)
  have hd0 : decide (n < 0) = false := by simp; omega
  have hd1 : decide (2147483647 < n) = false := by simp; omega
  clear h0 h1
  go_enter Tryz.func41, Tryz.ntmps41
  go_wp2
  go_loopw [0, 3] (fun x v wr => ∃ (m : Int) (pre : List Int), 0 ≤ m ∧ m ≤ n ∧ x = .int .i64 m ∧ Hid (pre ++ put m.toNat = put n.toNat) ∧ wr.ownsRow w.heap.size 5 1 v pre.length (pre.map (Value.int .u8)) ∧ Below w.heap.size w wr) (fun x _ _ => (intOf x).toNat)
  case atStart => exact ⟨n, [], hn0, by omega, rfl, rfl, World.ownsRow_nil _ _ _ _, Below.refl _ _⟩
  case round =>
    obtain ⟨m, pre, hm0, hm, rfl, hpre, hown, hbel⟩ := hrel
    have hpl : pre.length ≤ 5 := by have := congrArg List.length hpre.out; rw [List.length_append] at this; have := hN.out; omega
    by_cases hlt : 127 < m
    · have HP : Hid (pre ++ [(m % 128 + 128)] ++ put (m / 128).toNat = put n.toNat) := by rw [← hpre.out, put_hi (by omega : ¬ m.toNat ≤ 127), show (m / 128).toNat = m.toNat / 128 by omega, show ((m.toNat : Nat) : Int) = m by omega]; simp [Hid]
      clear hpre
      go_wp2_with (first | (at_builtin; refine wpList_append_own _ rfl _ _ 22 rfl w.heap.size 5 i0 (.int .u8 0) 1 1 Tryz.underlying22 hi hz0 hz1 hz2 rfl (by decide) _ _ _ rfl (hown.alloc _) ⟨wr.heap.size, 0, none⟩ 1 1 [.int .u8 (m % 128 + 128)] rfl rfl ?c1 ?c2 ?c3 ?c4 ?c5 ?_) | go_in)
      try case c1 => exact cell_one_new _ _ _
      try case c2 => first | rfl | (intro u hu; simp at hu; subst hu; rfl)
      case c3 => first | omega | (unfold maxLen; omega)
      case c4 => omega
      case c5 => have := hbel.size; first | omega | (simp; omega)
      · intro v' w1 hown' hgrow _
        have R : w1.ownsRow w.heap.size 5 1 v' (pre ++ [(m % 128 + 128)]).length ((pre ++ [(m % 128 + 128)]).map (Value.int .u8)) ∧ Below w.heap.size w w1 := own_push hown hown' hgrow hbel (Nat.le_refl _)
        clear hown' hgrow hown
        go_wp2
        go_roundw
        case rel => exact ⟨m / 128, pre ++ [(m % 128 + 128)], by omega, by omega, rfl, HP, R.1, R.2⟩
        case measure => simp [intOf]; omega
    · have HP : Hid (pre ++ [m] = put n.toNat) := by rw [← hpre.out, put_lo (by omega : m.toNat ≤ 127), show ((m.toNat : Nat) : Int) = m by omega]; rfl
      clear hpre
      go_wp2_with (first | (at_builtin; refine wpList_append_own _ rfl _ _ 22 rfl w.heap.size 5 i0 (.int .u8 0) 1 1 Tryz.underlying22 hi hz0 hz1 hz2 rfl (by decide) _ _ _ rfl (hown.alloc _) ⟨wr.heap.size, 0, none⟩ 1 1 [.int .u8 m] rfl rfl ?d1 ?d2 ?d3 ?d4 ?d5 ?_) | go_in)
      try case d1 => exact cell_one_new _ _ _
      try case d2 => first | rfl | (intro u hu; simp at hu; subst hu; rfl)
      case d3 => first | omega | (unfold maxLen; omega)
      case d4 => omega
      case d5 => have := hbel.size; first | omega | (simp; omega)
      · intro v' w1 hown' hgrow _
        have R : w1.ownsRow w.heap.size 5 1 v' (pre ++ [m]).length ((pre ++ [m]).map (Value.int .u8)) ∧ Below w.heap.size w w1 := own_push hown hown' hgrow hbel (Nat.le_refl _)
        clear hown' hgrow hown
        rw [HP.out] at R
        go_wp2
        go_ret
        exact ⟨_, rfl, R.1, R.2⟩
theorem own_empty (w : World) (E : Nat) : (w.alloc (.cells #[] E)).ownsRow w.heap.size E 1 (.slice (some ⟨w.heap.size, 0, none⟩) 0 0) 0 [] :=
  World.ownsRow_lit w #[] 0 (Nat.le_refl _) (Nat.zero_le _) rfl
set_option maxHeartbeats 1000000 in
theorem putSpec (n : Int) (w : World) (hn : (Lit.int .i64 n).wf = true) :
    Calls Tryz.prog 81 #[.int .i64 n] w fun e w' => ∃ v, e = .returned v ∧ w'.ownsRow w.heap.size 5 1 v (putZ n).length ((putZ n).map (Value.int .u8)) ∧ Below w.heap.size w w' := by
  obtain ⟨i0, hi, hz0, hz1, hz2⟩ := info_parts Tryz.info5
  by_cases h0 : n < 0
  · have e : putZ n = [] := by unfold putZ; rw [if_neg (by omega)]
    go_enter Tryz.func81, Tryz.ntmps81
    go_wp2_with (first | (go_at_call 66; refine (inNo _ _ _ _ (by omega)).mono ?_; rintro e w' ⟨rfl, rfl⟩) | go_in)
    go_ret
    exact ⟨_, rfl, by first | exact own_empty w 5 | (rw [e]; exact own_empty w 5), (Below.refl _ _).alloc (Nat.le_refl _) _⟩
  by_cases h1 : 2147483647 < n
  · have e : putZ n = [] := by unfold putZ; rw [if_neg (by omega)]
    go_enter Tryz.func81, Tryz.ntmps81
    go_wp2_with (first | (go_at_call 66; refine (inNo _ _ _ _ (by omega)).mono ?_; rintro e w' ⟨rfl, rfl⟩) | go_in)
    go_ret
    exact ⟨_, rfl, by first | exact own_empty w 5 | (rw [e]; exact own_empty w 5), (Below.refl _ _).alloc (Nat.le_refl _) _⟩
  have e : putZ n = put n.toNat := by unfold putZ; rw [if_pos (by omega)]
  rw [e]
  clear e
  have hn0 : 0 ≤ n := by omega
  have hn1 : n ≤ 2147483647 := by omega
  have hN : Hid ((put n.toNat).length ≤ 5) := put_short (by omega)
  have hd0 : decide (n < 0) = false := by simp; omega
  have hd1 : decide (2147483647 < n) = false := by simp; omega
  clear h0 h1
  go_enter Tryz.func81, Tryz.ntmps81
  go_wp2_with (first | (go_at_call 66; refine (inYes _ _ _ _ (by omega)).mono ?_; rintro e w' ⟨rfl, rfl⟩) | go_in)
  go_loopw [0, 3] (fun x v wr => ∃ (m : Int) (pre : List Int), 0 ≤ m ∧ m ≤ n ∧ x = .int .i64 m ∧ Hid (pre ++ put m.toNat = put n.toNat) ∧ wr.ownsRow w.heap.size 5 1 v pre.length (pre.map (Value.int .u8)) ∧ Below w.heap.size w wr) (fun x _ _ => (intOf x).toNat)
  case atStart => exact ⟨n, [], hn0, by omega, rfl, rfl, own_empty w 5, (Below.refl _ _).alloc (Nat.le_refl _) _⟩
  case round =>
    obtain ⟨m, pre, hm0, hm, rfl, hpre, hown, hbel⟩ := hrel
    have hpl : pre.length ≤ 5 := by have := congrArg List.length hpre.out; rw [List.length_append] at this; have := hN.out; omega
    by_cases hlt : 127 < m
    · have HP : Hid (pre ++ [(m % 128 + 128)] ++ put (m / 128).toNat = put n.toNat) := by rw [← hpre.out, put_hi (by omega : ¬ m.toNat ≤ 127), show (m / 128).toNat = m.toNat / 128 by omega, show ((m.toNat : Nat) : Int) = m by omega]; simp [Hid]
      clear hpre
      go_wp2_with (first | (at_builtin; refine wpList_append_own _ rfl _ _ 22 rfl w.heap.size 5 i0 (.int .u8 0) 1 1 Tryz.underlying22 hi hz0 hz1 hz2 rfl (by decide) _ _ _ rfl (hown.alloc _) ⟨wr.heap.size, 0, none⟩ 1 1 [.int .u8 (m % 128 + 128)] rfl rfl ?c1 ?c2 ?c3 ?c4 ?c5 ?_) | go_in)
      try case c1 => exact cell_one_new _ _ _
      try case c2 => first | rfl | (intro u hu; simp at hu; subst hu; rfl)
      case c3 => first | omega | (unfold maxLen; omega)
      case c4 => omega
      case c5 => have := hbel.size; first | omega | (simp; omega)
      · intro v' w1 hown' hgrow _
        have R : w1.ownsRow w.heap.size 5 1 v' (pre ++ [(m % 128 + 128)]).length ((pre ++ [(m % 128 + 128)]).map (Value.int .u8)) ∧ Below w.heap.size w w1 := own_push hown hown' hgrow hbel (Nat.le_refl _)
        clear hown' hgrow hown
        go_wp2
        go_roundw
        case rel => exact ⟨m / 128, pre ++ [(m % 128 + 128)], by omega, by omega, rfl, HP, R.1, R.2⟩
        case measure => simp [intOf]; omega
    · have HP : Hid (pre ++ [m] = put n.toNat) := by rw [← hpre.out, put_lo (by omega : m.toNat ≤ 127), show ((m.toNat : Nat) : Int) = m by omega]; rfl
      clear hpre
      go_wp2_with (first | (at_builtin; refine wpList_append_own _ rfl _ _ 22 rfl w.heap.size 5 i0 (.int .u8 0) 1 1 Tryz.underlying22 hi hz0 hz1 hz2 rfl (by decide) _ _ _ rfl (hown.alloc _) ⟨wr.heap.size, 0, none⟩ 1 1 [.int .u8 m] rfl rfl ?d1 ?d2 ?d3 ?d4 ?d5 ?_) | go_in)
      try case d1 => exact cell_one_new _ _ _
      try case d2 => first | rfl | (intro u hu; simp at hu; subst hu; rfl)
      case d3 => first | omega | (unfold maxLen; omega)
      case d4 => omega
      case d5 => have := hbel.size; first | omega | (simp; omega)
      · intro v' w1 hown' hgrow _
        have R : w1.ownsRow w.heap.size 5 1 v' (pre ++ [m]).length ((pre ++ [m]).map (Value.int .u8)) ∧ Below w.heap.size w w1 := own_push hown hown' hgrow hbel (Nat.le_refl _)
        clear hown' hgrow hown
        rw [HP.out] at R
        go_wp2
        go_ret
        exact ⟨_, rfl, R.1, R.2⟩

end Go.Proofs.YthgcbihhdbpbdaaGreatDoor
namespace Go.Proofs.YthgcbihhdbpbdaaGreatDoor
open Go.ChangeShapes Go.WideShapes Go.ChangeAt Go.RowKit
open Go.ChangeMaps (open_string shut_string)
set_option linter.unusedVariables false
set_option maxRecDepth 100000

theorem and255 (n : Int) : bits .and .i64 n 255 = n % 256 := by
  have h255 : (BitVec.ofInt 64 255).toNat = 2 ^ 8 - 1 := by decide
  have key : (BitVec.ofInt 64 n &&& BitVec.ofInt 64 255).toNat = (n % ((2 ^ 64 : Nat) : Int)).toNat % 2 ^ 8 := by
    rw [BitVec.toNat_and, BitVec.toNat_ofInt, h255, Nat.and_two_pow_sub_one_eq_mod]
  show IntKind.i64.wrap ((BitVec.ofInt 64 n &&& BitVec.ofInt 64 255).toNat : Nat) = n % 256
  rw [key, IntKind.wrap_i64]
  omega

def low4 (s : Int) : List Int := [s % 256, s / 256 % 256, s / 65536 % 256, s / 16777216 % 256]
set_option maxHeartbeats 1000000 in
theorem l2sum (s : Int) (w : World) (h0 : 0 ≤ s) (h1 : s ≤ 4294967295) :
    Calls Tryz.prog 59 #[.int .i64 s] w fun e w' => ∃ v, e = .returned v ∧ w'.ownsRow w.heap.size 5 1 v (low4 s).length ((low4 s).map (Value.int .u8)) ∧ Below w.heap.size w w' := by
  have h255 : ∀ n : Int, bits BinOp.and IntKind.i64 n 255 = n % 256 := and255
  have hmm : ∀ n : Int, n % 256 % 256 = n % 256 := fun n => by omega
  go_enter Tryz.func59, Tryz.ntmps59
  go_wp2
  go_ret
  refine ⟨_, rfl, ?_, below_box w _⟩
  exact World.ownsRow_lit w #[Value.int .u8 (s % 256), Value.int .u8 (s / 256 % 256), Value.int .u8 (s / 65536 % 256), Value.int .u8 (s / 16777216 % 256)] 4 (Nat.le_refl _) (by decide) rfl

set_option maxHeartbeats 1000000 in
theorem lowFirst (s : Int) (w : World) (h0 : 0 ≤ s) (h1 : s ≤ 4294967295) :
    Calls Tryz.prog 42 #[.int .i64 s] w fun e w' => e = .returned (.slice (some ⟨w.heap.size, 0, none⟩) 4 4) ∧ View w' (some ⟨w.heap.size, 0, none⟩) 4 (fun i => (low4 s).getD i 0) ∧ w.heap.size < w'.heap.size ∧ Below w.heap.size w w' := by
  obtain ⟨i0, hi, hz0, hz1, hz2⟩ := info_parts Tryz.info5'
  go_enter Tryz.func42, Tryz.ntmps42
  go_wp2_with (first | (refine wpList_make_full _ rfl _ _ 22 rfl w.heap.size 5 i0 (.int .u8 0) 1 Tryz.underlying22 hi hz0 hz1 .i64 .i64 _ _ 4 rfl rfl rfl rfl ?c1 ?c2 ?c3 ?_))
  case c1 => rw [hz2]; omega
  case c2 => unfold maxLen; omega
  case c3 => exact Nat.le_refl _
  intro w1 hown hgrow
  have F0 : Filled w.heap.size 4 (fun i => (low4 s).getD i 0) 0 w w1 := filled_made hown hgrow
  clear hown hgrow
  go_wp2
  go_loopw [8] (fun i wr => ∃ k : Nat, k ≤ 4 ∧ i = .int .i64 k ∧ Filled w.heap.size 4 (fun i => (low4 s).getD i 0) k w wr) (fun i _ => 4 - (intOf i).toNat)
  case atStart => exact ⟨0, Nat.zero_le _, rfl, F0⟩
  case round =>
    obtain ⟨k, hk, rfl, F⟩ := hrel
    clear F0
    by_cases hlt : k < 4
    · obtain ⟨u, hu⟩ := F.2.2.1 k hlt
      have hfz := F.2.2.2.1 k hlt
      have F1 := F.step hlt
      clear F
      rcases (by omega : k = 0 ∨ k = 1 ∨ k = 2 ∨ k = 3) with rfl | rfl | rfl | rfl
      · go_wp2
        go_roundw
        case rel => exact ⟨1, by omega, rfl, F1⟩
        case measure => simp [intOf]
      · go_wp2
        go_roundw
        case rel => exact ⟨2, by omega, rfl, F1⟩
        case measure => simp [intOf]
      · go_wp2
        go_roundw
        case rel => exact ⟨3, by omega, rfl, F1⟩
        case measure => simp [intOf]
      · go_wp2
        go_roundw
        case rel => exact ⟨4, by omega, rfl, by rw [show s / 16777216 = (low4 s).getD 3 0 by show _ = s / 16777216 % 256; omega]; exact F1⟩
        case measure => simp [intOf]
    · obtain rfl : k = 4 := by omega
      go_wp2
      go_ret
      exact ⟨rfl, View.mk0 F.2.2.2.2, F.2.1, F.1⟩

end Go.Proofs.YthgcbihhdbpbdaaGreatDoor
namespace Go.Proofs.YthgcbihhdbpbdaaGreatDoor
open Go.ChangeShapes Go.WideShapes Go.ChangeAt Go.RowKit
open Go.ChangeMaps (open_string shut_string)
set_option linter.unusedVariables false
set_option maxRecDepth 100000

def sx (f : Nat → Int) : Nat → Int
  | 0 => 1
  | k + 1 => (sx f k + f k) % 65521
def sy (f : Nat → Int) : Nat → Int
  | 0 => 0
  | k + 1 => (sy f k + sx f (k + 1)) % 65521
theorem sx_bd (f : Nat → Int) (k : Nat) : 0 ≤ sx f k ∧ sx f k ≤ 65520 := by
  cases k with
  | zero => simp [sx]
  | succ k => simp only [sx]; omega
theorem sy_bd (f : Nat → Int) (k : Nat) : 0 ≤ sy f k ∧ sy f k ≤ 65520 := by
  cases k with
  | zero => simp [sy]
  | succ k => simp only [sy]; omega

set_option maxHeartbeats 400000 in
theorem sumSpec (ad : Option Addr) (len cap : Nat) (f : Nat → Int) (w : World) (hv : View w ad len f) (hl : len ≤ 1048576) (hf : ∀ i, 0 ≤ f i ∧ f i ≤ 255) :
    Calls Tryz.prog 60 #[.slice ad len cap] w fun e w' => e = .returned (.int .i64 (sy f len * 65536 + sx f len)) ∧ w' = w := by
  go_enter Tryz.func60, Tryz.ntmps60
  go_wp2
  go_loop [3, 4, 5] (fun x y i => ∃ k : Nat, k ≤ len ∧ i = .int .i64 k ∧ x = .int .i64 (sx f k) ∧ y = .int .i64 (sy f k)) (fun _ _ i => len - (intOf i).toNat)
  case atStart => exact ⟨0, Nat.zero_le _, rfl, rfl, rfl⟩
  case round =>
    obtain ⟨k, hk, rfl, rfl, rfl⟩ := hrel
    have bx := sx_bd f k
    have by' := sy_bd f k
    have bf := hf k
    by_cases hlt : k < len
    · obtain ⟨b, off, rfl, hc⟩ := hv (by omega)
      have hck := hc k hlt
      have bx1 := sx_bd f (k + 1)
      have HX : Hid (sx f (k + 1) = (sx f k + f k) % 65521) := rfl
      have HY : Hid (sy f (k + 1) = (sy f k + sx f (k + 1)) % 65521) := rfl
      go_wp2
      go_round
      case rel => exact ⟨k + 1, by omega, by go_num, by rw [HX.out], by rw [HY.out, HX.out]⟩
      case measure => simp [intOf]; omega
    · obtain rfl : k = len := by omega
      go_wp2
      go_ret
      exact ⟨rfl, rfl⟩

set_option maxHeartbeats 400000 in
theorem sumImpl (ad : Option Addr) (len cap : Nat) (f : Nat → Int) (w : World) (hv : View w ad len f) (hl : len ≤ 1048576) (hf : ∀ i, 0 ≤ f i ∧ f i ≤ 255) :
    Calls Tryz.prog 43 #[.slice ad len cap] w fun e w' => e = .returned (.int .i64 (sy f len * 65536 + sx f len)) ∧ w' = w := by
  go_enter Tryz.func43, Tryz.ntmps43
  go_wp2
  go_loop [3, 4, 9] (fun x y i => ∃ k : Nat, k ≤ len ∧ i = .int .i64 k ∧ x = .int .i64 (sx f k) ∧ y = .int .i64 (sy f k)) (fun _ _ i => len - (intOf i).toNat)
  case atStart => exact ⟨0, Nat.zero_le _, rfl, rfl, rfl⟩
  case round =>
    obtain ⟨k, hk, rfl, rfl, rfl⟩ := hrel
    have bx := sx_bd f k
    have by' := sy_bd f k
    have bf := hf k
    by_cases hlt : k < len
    · obtain ⟨b, off, rfl, hc⟩ := hv (by omega)
      have hck := hc k hlt
      have bx1 := sx_bd f (k + 1)
      have HX : Hid (sx f (k + 1) = (sx f k + f k) % 65521) := rfl
      have HY : Hid (sy f (k + 1) = (sy f k + sx f (k + 1)) % 65521) := rfl
      go_wp2
      go_round
      case rel => exact ⟨k + 1, by omega, by go_num, by rw [HX.out], by rw [HY.out, HX.out]⟩
      case measure => simp [intOf]; omega
    · obtain rfl : k = len := by omega
      go_wp2
      go_ret
      exact ⟨rfl, rfl⟩


/-- The check sum of a row. -/
def sumL (B : List Int) : Int := sy (fun i => B.getD i 0) B.length * 65536 + sx (fun i => B.getD i 0) B.length
theorem sumL_bd (B : List Int) : 0 ≤ sumL B ∧ sumL B ≤ 4294967295 := by
  have h1 := sx_bd (fun i => B.getD i 0) B.length
  have h2 := sy_bd (fun i => B.getD i 0) B.length
  unfold sumL
  omega
theorem getD_bd {B : List Int} (h : ∀ x ∈ B, 0 ≤ x ∧ x ≤ 255) (i : Nat) : 0 ≤ B.getD i 0 ∧ B.getD i 0 ≤ 255 := by
  by_cases hi : i < B.length
  · have := h B[i] (List.getElem_mem hi)
    simpa [List.getD, List.getElem?_eq_getElem hi] using this
  · simp [List.getD, List.getElem?_eq_none (by omega : B.length ≤ i)]
theorem putZ_small {n : Int} (h0 : 0 ≤ n) (h1 : n ≤ 127) : putZ n = [n] := by
  unfold putZ
  rw [if_pos (by omega), put_lo (by omega)]
  congr 1
  omega
theorem below_own {w w' : World} {base E n : Nat} {v : Value} {xs : List Value} (hown : w.ownsRow base E 1 v n xs) (h : w.grownBy w' v.ownBlock) (hb : base ≤ w.heap.size) : Below base w w' := by
  refine (Below.refl _ _).grown h hb ?_
  intro k hk
  rcases hown.2 with ⟨rfl, _⟩ | ⟨g, cap, cur, rfl, hb, _⟩
  · simp [Value.ownBlock] at hk
  · simp [Value.ownBlock] at hk; omega
theorem own_carry {w w' : World} {base E n : Nat} {v : Value} {xs : List Value} (h : w.ownsRow base E 1 v n xs) (bl : Below w.heap.size w w') : w'.ownsRow base E 1 v n xs := by
  refine ⟨h.1, ?_⟩
  rcases h.2 with h | ⟨g, cap, cur, e, hb, hg, r⟩
  · exact .inl h
  · exact .inr ⟨g, cap, cur, e, hb, (bl.block g (Array.getElem?_eq_some_iff.1 hg).1).trans hg, r⟩
theorem own_base {w : World} {base base' E n : Nat} {v : Value} {xs : List Value} (h : w.ownsRow base E 1 v n xs) (hb : base' ≤ base) : w.ownsRow base' E 1 v n xs := by
  refine ⟨h.1, ?_⟩
  rcases h.2 with h | ⟨g, cap, cur, e, hg, r⟩
  · exact .inl h
  · exact .inr ⟨g, cap, cur, e, Nat.le_trans hb hg, r⟩
theorem View.add {w : World} {x : Addr} {L : List Int} (hv : View w (some x) L.length (fun i => L.getD i 0)) : ∀ j u, (L.map (Value.int .u8))[j]? = some u → w.cell? (x.add j) = some u := by
  intro j u hu
  rw [List.getElem?_map] at hu
  have hj : j < L.length := by
    rcases Nat.lt_or_ge j L.length with h | h
    · exact h
    · rw [List.getElem?_eq_none h] at hu; simp at hu
  obtain ⟨b, off, e, hc⟩ := hv (by omega)
  cases e
  have hcj := hc j hj
  rw [List.getElem?_eq_getElem hj] at hu
  simp only [Option.map_some, Option.some.injEq] at hu
  have e1 : L.getD j 0 = L[j] := by simp [List.getD, List.getElem?_eq_getElem hj]
  have hcj : w.cell? ⟨b, off + j, none⟩ = some u := by rw [hcj, ← hu]; exact congrArg (fun z => some (Value.int IntKind.u8 z)) e1
  by_cases hj0 : j = 0
  · subst hj0; simpa [Addr.add] using hcj
  · simpa [Addr.add, hj0] using hcj
/-- A row of bytes put behind a row that the call owns. -/
theorem app_view {w : World} {ops : Array Oper} {rest : List Oper} {o : Oper} {a : Act} {Q : Exit → Act → World → Prop} (hgd : o.guard = none) (s x : Operand)
    (ho : o.op = .call { callee := .builtin .append, args := #[s, x], argTypes := #[22, 22] }) (base : Nat) (v : Value) (pre : List Int) (hs : a.eval s = v)
    (hown : w.ownsRow base 5 1 v pre.length (pre.map (Value.int .u8))) (ad : Option Addr) (cap : Nat) (L : List Int) (hx : a.eval x = .slice ad L.length cap)
    (hv : View w ad L.length (fun i => L.getD i 0)) (hnil : L = [] → ad = none → cap = 0) (hlen : pre.length + L.length ≤ 16777216) (hbase : base ≤ w.heap.size)
    (h : ∀ v' w', w'.ownsRow base 5 1 v' (pre ++ L).length ((pre ++ L).map (Value.int .u8)) → Below base w w' → wpList Tryz.prog ops Q rest (a.put o.dst v') w') :
    wpList Tryz.prog ops Q (o :: rest) a w := by
  obtain ⟨i0, hi, hz0, hz1, hz2⟩ := info_parts Tryz.info5
  cases ad with
  | none =>
    have hL : L = [] := by
      cases L with
      | nil => rfl
      | cons a r => obtain ⟨b, off, e, _⟩ := hv (by simp); cases e
    subst hL
    obtain rfl := hnil rfl rfl
    refine wpList_append_own_none hgd s x 22 ho base 5 i0 1 Tryz.underlying22 hi v pre.length (pre.map (Value.int .u8)) hs hown hx ?_
    exact h v w (by simpa using hown) (Below.refl _ _)
  | some q =>
    refine wpList_append_own _ hgd s x 22 ho base 5 i0 (.int .u8 0) 1 1 Tryz.underlying22 hi hz0 hz1 hz2 rfl (by decide) v pre.length (pre.map (Value.int .u8)) hs hown q L.length cap (L.map (Value.int .u8)) hx (by simp) hv.add ?_ ?_ ?_ hbase ?_
    · intro u hu
      obtain ⟨y, _, rfl⟩ := List.mem_map.1 hu
      rfl
    · unfold maxLen; omega
    · omega
    · intro v' w' h1 h2 _
      refine h v' w' ?_ (below_own hown h2 hbase)
      rw [List.length_append, List.map_append]
      exact h1

end Go.Proofs.YthgcbihhdbpbdaaGreatDoor
